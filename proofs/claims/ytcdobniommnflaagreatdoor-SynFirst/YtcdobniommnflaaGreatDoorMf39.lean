/- Walk of the document's Tokens: its rounds. The document's Same of tokens, whatever they are; the first wrong token, plainly. -/
import Derived.Test.YtcdobniommnflaaGreatDoorMf38
import Derived.Test.YtcdobniommnflaaGreatDoorMf03
import Derived.Test.YtcdobniommnflaaGreatDoorMf36
namespace Go.Proofs.YtcdobniommnflaaGreatDoor
open Go.RowKit

theorem nm0 {s : ByteArray} {m : Nat} (h : m < s.size) : rnm (s.data.toList.drop m) = if isL (bv s[m]) then nmLen (s.data.toList.drop m) else 0 := by
  unfold rnm
  rw [drop_at s m h, wd_cons]
  cases hl : isL (bv s[m]) with
  | true => simp
  | false => simp

attribute [local go_sem ↓] storeAt_tk storeAt_fl loadAt_tk loadAt_fl
set_option maxRecDepth 100000 in
set_option maxHeartbeats 4000000 in
theorem rtokens_any (s : ByteArray) (hs : s.size ≤ 65536) (w : World) :
    Calls Tryz.prog 14 #[.string s] w fun e w' => TokAns (lexP s.data.toList) w w' e := by
  have H := hide (show lexP s.data.toList = scan 0 s.data.toList by unfold lexP; rw [← size_len, if_neg (by omega)])
  obtain ⟨i0, hi, hz0, hz1, hz2⟩ := infoT_parts
  have HI := hide (show Tryz.prog.info? 42 = some i0 ∧ i0.zero = some (.agg #[.int .i64 0, .string ⟨#[]⟩, .int .i64 0, .int .i64 0]) ∧ i0.size = 4 ∧ i0.bytes = 40 from ⟨hi, hz0, hz1, hz2⟩)
  have HST := hide (show RkInv s w (.slice none 0 0) (w.alloc fltZ) [] 0 from ⟨World.ownsRow_nil _ _ _ _, (Below.refl _ w).alloc (Nat.le_refl _) _, heap_alloc_new w _, Nat.zero_le _, Nat.zero_le _, by rw [List.drop_zero, app_nil]⟩)
  obtain ⟨W1, hW1⟩ : ∃ W1, w.alloc fltZ = W1 := ⟨_, rfl⟩
  have HW1 := hide hW1
  rw [hW1] at HST
  clear hi hz0 hz1 hz2 hW1
  go_enter Tryz.func14, Tryz.ntmps14
  go_wp2_with fail
  rw [show w.alloc (.cells #[.int .i64 0, .int .i64 0] 31) = W1 from unhide HW1]
  go_loopw [4, 5] (fun v i wr => RkRel s w v i wr) (fun _ i _ => s.size - (intOf i).toNat)
  case atStart => exact ⟨[], 0, rfl, HST⟩
  case round =>
    clear HST HW1
    obtain ⟨toks, m, rfl, HH⟩ := hrel
    have hms := (unhide HH).ms
    have htl := (unhide HH).tl
    have hbsz := (unhide HH).bel.size
    by_cases hlt : m < s.size
    · have HBX0 := hide (unhide HH).bel
      have HRX0 := hide (unhide HH).rb
      have HRB := hide (Array.getElem?_eq_some_iff.1 (unhide HH).rb).1
      have HGC := hide (rgap_any s m hlt (by omega) wr)
      cases hg : gapAt (s.data.toList.drop m) with
      | never =>
        rw [hg] at HGC
        have HBX := HBX0
        have HRX := HRX0
        have hneg : gapV m .never = -1 := rfl
        rw [hneg] at HGC
        go_wp2_with fail
        refine (unhide HGC).mono ?_
        rintro e w1 ⟨rfl, rfl⟩
        have HSC := hide (show scan 0 s.data.toList = .bad 7 m by rw [(unhide HH).sc, scan_never hg]; rfl)
        go_wp2_with fail
        refine (fault_any _ _ _).mono ?_
        rintro e w3 ⟨rfl, b3⟩
        have bel3 := (unhide HBX).trans (b3.mono (unhide HBX).size)
        have fr3 : w3.heap[w.heap.size]? = some fltZ := by rw [b3.block _ (Array.getElem?_eq_some_iff.1 (unhide HRX)).1]; exact unhide HRX
        obtain ⟨w9, hS9, z0, z1, bw, _⟩ := last bel3 fr3 7 (m : Int)
        clear b3 bel3 fr3
        go_wp2_with fail
        refine bodyPost_ret (v := .tuple #[.slice none 0 0, .agg #[.int .i64 7, .int .i64 (m : Int)]]) (by simp [results, Tryz.results14, go_sem, z0, z1]) rfl ?_
        rw [unhide H, unhide HSC]
        exact ⟨_, rfl, World.ownsRow_nil _ _ _ _, bw⟩
      | gap n =>
        have hp := gap_pos hg
        rw [len_drop] at hp
        rw [hg, show gapV m (.gap n) = (m : Int) + (n : Int) from rfl] at HGC
        have HR := hide (show RkRel s w u4 (.int .i64 ((m + n : Nat) : Int)) wr from ⟨_, _, rfl, hide ⟨(unhide HH).own, (unhide HH).bel, (unhide HH).rb, by omega, by omega, by rw [(unhide HH).sc, scan_gap hg, List.drop_drop]⟩⟩)
        have h1 : decide ((m : Int) < (m : Int) + (n : Int)) = true := decide_eq_true (by omega)
        have h2 : decide ((m : Int) + (n : Int) < 0) = false := decide_eq_false (by omega)
        go_wp2_with fail
        refine (unhide HGC).mono ?_
        rintro e w1 ⟨rfl, rfl⟩
        go_wp2_with fail
        go_roundw
        case rel => exact unhide HR
        case measure => simp [intOf]; omega
      | none =>
        rw [hg, show gapV m .none = (m : Int) from rfl] at HGC
        have HG := hide hg
        clear hg
        have hS1 := tk_new wr 0 0 0 ⟨#[]⟩
        have hS2 := fl_new (wr.alloc tokZ) 0 0
        rw [show (wr.alloc tokZ).heap.size = wr.heap.size + 1 by simp] at hS2
        have htk := tok_cons s[m] (s.data.toList.drop (m + 1))
        rw [← drop_at s m hlt] at htk
        have hnm := nm0 hlt
        have hA0 := aft0 (unhide HH) (Below.refl _ _)
        have HBX := hide hA0.bel
        have HRX := hide hA0.fr
        obtain ⟨W5, hW5⟩ : ∃ W5, (wr.alloc tokZ).alloc fltZ = W5 := ⟨_, rfl⟩
        have HW5 := hide hW5
        have hsz5 : W5.heap.size = wr.heap.size + 2 := by rw [← hW5]; simp
        have HZ5 := hide hsz5
        have HN5 := hide (show ∀ n, rnm (s.data.toList.drop m) = n → Calls Tryz.prog 44 #[.string s, .int .i64 (m : Int)] ((wr.alloc tokZ).alloc fltZ) fun e w' => e = .returned (.int .i64 (n : Int)) ∧ w' = (wr.alloc tokZ).alloc fltZ from
          fun n hn => by have := rname_any s m (by omega) (by omega) ((wr.alloc tokZ).alloc fltZ); rwa [hn] at this)
        rw [hW5] at hA0 HBX HRX HN5
        clear hW5 hsz5
        cases hl : isL (bv s[m]) with
        | true =>
          rw [hl, if_pos rfl] at hnm htk
          obtain ⟨n, hn⟩ : ∃ n, nmLen (s.data.toList.drop m) = n := ⟨_, rfl⟩
          have hle := nm_le (s.data.toList.drop m)
          rw [len_drop, hn] at hle
          have hpos : 0 < n := by rw [← hn, drop_at s m hlt, nm_in (inW_L hl)]; omega
          have HNC := hide (unhide HN5 n (by rw [hnm, hn]))
          by_cases h64 : 64 < n
          · have ht : tokAt (s.data.toList.drop m) = .bad 2 0 := by rw [htk]; unfold nmRes; rw [hn, if_pos h64]
            clear hA0 hnm
            go_wp2_with fail
            refine (unhide HGC).mono ?_
            rintro e w1 ⟨rfl, rfl⟩
            go_wp2_with fail
            rw [show (w1.alloc (.cells #[.int .i64 0, .string ⟨#[]⟩, .int .i64 0, .int .i64 0] 42)).alloc (.cells #[.int .i64 0, .int .i64 0] 31) = W5 from unhide HW5]
            refine (unhide HNC).mono ?_
            rintro e w1' ⟨rfl, rfl⟩
            have HSC := hide (show scan 0 s.data.toList = .bad 2 m by rw [(unhide HH).sc]; exact app_bad _ _ _ _ (scan_bad (by rw [drop_at s m hlt]; simp) (unhide HG) ht))
            go_wp2_with fail
            refine (fault_any _ _ _).mono ?_
            rintro e w3 ⟨rfl, b3⟩
            have bel3 := (unhide HBX).trans (b3.mono (unhide HBX).size)
            have fr3 : w3.heap[w.heap.size]? = some fltZ := by rw [b3.block _ (Array.getElem?_eq_some_iff.1 (unhide HRX)).1]; exact unhide HRX
            obtain ⟨w9, hS9, z0, z1, bw, _⟩ := last bel3 fr3 2 (m : Int)
            clear b3 bel3 fr3
            go_wp2_with fail
            refine bodyPost_ret (v := .tuple #[.slice none 0 0, .agg #[.int .i64 2, .int .i64 (m : Int)]]) (by simp [results, Tryz.results14, go_sem, z0, z1]) rfl ?_
            rw [unhide H, unhide HSC]
            exact ⟨_, rfl, World.ownsRow_nil _ _ _ _, bw⟩
          · have hrun := run_piece s m n (m : Int) ((m : Int) + (n : Int)) rfl (by omega) (by omega)
            obtain ⟨u, hu⟩ : ∃ u, s.extract m (m + n) = u := ⟨_, rfl⟩
            have hul : u.data.toList = (s.data.toList.drop m).take n := by rw [← hu]; exact ext_piece s m n
            rw [hu] at hrun
            have ht : tokAt (s.data.toList.drop m) = .tok 1 u.data.toList 0 n := by rw [htk]; unfold nmRes; rw [hn, if_neg h64, hul]
            obtain ⟨w8, hS8, hA⟩ := aft_tok (unhide HH).own (unhide HRB) hA0 1 0 (m : Int) u
            clear hu hul hA0 htk hnm hn
            go_wp2_with fail
            refine (unhide HGC).mono ?_
            rintro e w1 ⟨rfl, rfl⟩
            go_wp2_with fail
            rw [show (w1.alloc (.cells #[.int .i64 0, .string ⟨#[]⟩, .int .i64 0, .int .i64 0] 42)).alloc (.cells #[.int .i64 0, .int .i64 0] 31) = W5 from unhide HW5]
            refine (unhide HNC).mono ?_
            rintro e w1' ⟨rfl, rfl⟩
            have hL := fl_load (w := w8) hA.ff
            have hT := tk_load (w := w8) hA.ft
            have HA := hide hA
            have hz8 := hA.sz
            have hb8 := hA.bel.size
            have HT := hide ht
            clear hA ht
            go_wp2_with (at_builtin; refine wpList_append_own _ rfl _ _ 38 rfl (w.heap.size + 1) 42 i0 (.agg #[.int .i64 0, .string ⟨#[]⟩, .int .i64 0, .int .i64 0]) 4 40 Tryz.underlying38 (unhide HI).1 (unhide HI).2.1 (unhide HI).2.2.1 (unhide HI).2.2.2 rfl (by decide) _ _ _ rfl ((unhide HA).own.alloc _) ⟨_, 0, none⟩ 1 1 [.int .i64 1, .string u, .int .i64 0, .int .i64 (m : Int)] rfl rfl (tok_cell _ _ _ _ _) (tok_one _ _ _ _) (by unfold maxLen; omega) (by omega) (by simp; omega) ?_; intro v' w9 hown' hgrow _)
            have HR := hide (show RkRel s w v' (.int .i64 ((m + n : Nat) : Int)) w9 from ⟨_, _, rfl, hide (rk_next (tx := u.data.toList) (unhide HH) (by rw [show (⟨u.data.toList.toArray⟩ : ByteArray) = u from (bytes_of rfl).symm]; exact unhide HA) (unhide HG) (unhide HT) (by rw [show (⟨u.data.toList.toArray⟩ : ByteArray) = u from (bytes_of rfl).symm]; exact hown') (by rw [show (⟨u.data.toList.toArray⟩ : ByteArray) = u from (bytes_of rfl).symm]; exact hgrow))⟩)
            clear hown' hgrow
            go_roundw
            case rel => exact unhide HR
            case measure => simp [intOf]; omega
        | false =>
          rw [hl, if_neg (by simp)] at hnm htk
          cases hdg : isD (bv s[m]) with
          | true =>
            rw [hdg, if_pos rfl] at htk
            have HC := hide (fun W => rnumber_any s m hlt hdg hs W)
            rw [← htk] at HC
            have HNC := hide (unhide HN5 0 hnm)
            go_wp2_with fail
            refine (unhide HGC).mono ?_
            rintro e w1 ⟨rfl, rfl⟩
            go_wp2_with fail
            rw [show (w1.alloc (.cells #[.int .i64 0, .string ⟨#[]⟩, .int .i64 0, .int .i64 0] 42)).alloc (.cells #[.int .i64 0, .int .i64 0] 31) = W5 from unhide HW5]
            refine (unhide HNC).mono ?_
            rintro e w1' ⟨rfl, rfl⟩
            go_wp2_with fail
            refine (digit_any _ _).mono ?_
            rintro e w5 ⟨rfl, rfl⟩
            rw [show isD (s[m].toNat : Int) = true from hdg]
            go_wp2_with fail
            refine (unhide HC _).mono ?_
            rintro e w6 ⟨rfl, b6⟩
            have hA6 := aft0 (w6 := w6) (unhide HH) (by rw [unhide HZ5] at b6; rw [show (w1.alloc tokZ).alloc fltZ = w5 from unhide HW5]; exact b6)
            cases ht : tokAt (s.data.toList.drop m) with
            | bad why o =>
              rw [show resT m (.bad why o) = ⟨0, ⟨#[]⟩, 0, 0, 0, why, ((m + o : Nat) : Int)⟩ from rfl]
              obtain ⟨w7, hS7, hA7⟩ := aft_tok (unhide HH).own (unhide HRB) hA6 0 0 0 ⟨#[]⟩
              obtain ⟨w8, hS8, hA⟩ := aft_flt (unhide HH).own (unhide HRB) hA7 why ((m + o : Nat) : Int)
              have hwz : (why == 0) = false := beq_eq_false_iff_ne.2 (tok_bad ht).1
              obtain ⟨q, hq⟩ : ∃ q : Int, ((m + o : Nat) : Int) = q := ⟨_, rfl⟩
              rw [hq] at hS8 hA ⊢
              have HQ := hide hq
              clear hq
              have HSC := hide (show scan 0 s.data.toList = .bad why (m + o) by rw [(unhide HH).sc]; exact app_bad _ _ _ _ (scan_bad (by rw [drop_at s m hlt]; simp) (unhide HG) ht))
              have hL := fl_load (w := w8) hA.ff
              have hL2 := fl_load (w := w8.drew) hA.ff
              obtain ⟨w9, hS9, z0, z1, bw, _⟩ := last (wr := w8.drew) hA.bel.drew hA.fr why q
              clear hA
              clear ht htk hA6 hA7 b6 HC hA0
              go_wp2_with fail
              go_region
              all_goals
                go_wp2_with fail
                refine bodyPost_ret (v := .tuple #[.slice none 0 0, .agg #[.int .i64 why, .int .i64 q]]) (by simp [results, Tryz.results14, go_sem, z0, z1]) rfl ?_
                rw [unhide H, unhide HSC, ← unhide HQ]
                exact ⟨_, rfl, World.ownsRow_nil _ _ _ _, bw⟩
            | tok kd tx nm n =>
              have hp := tok_pos ht
              rw [len_drop] at hp
              rw [show resT m (.tok kd tx nm n) = ⟨kd, ⟨tx.toArray⟩, nm, (m : Int), ((m + n : Nat) : Int), 0, 0⟩ from rfl]
              obtain ⟨w7, hS7, hA7⟩ := aft_tok (unhide HH).own (unhide HRB) hA6 kd nm (m : Int) ⟨tx.toArray⟩
              obtain ⟨w8, hS8, hA⟩ := aft_flt (unhide HH).own (unhide HRB) hA7 0 0
              clear htk hA6 hA7 b6 HC hA0
              obtain ⟨q, hq⟩ : ∃ q : Int, ((m + n : Nat) : Int) = q := ⟨_, rfl⟩
              rw [hq]
              have HQ := hide hq
              have hq1 : (m : Int) < q := by omega
              have hq2 : q ≤ 65536 := by omega
              clear hq
              have hL := fl_load (w := w8) hA.ff
              have hT := tk_load (w := w8) hA.ft
              have HA := hide hA
              have hz8 := hA.sz
              have hb8 := hA.bel.size
              have HT := hide ht
              clear hA ht
              go_wp2_with (at_builtin; refine wpList_append_own _ rfl _ _ 38 rfl (w.heap.size + 1) 42 i0 (.agg #[.int .i64 0, .string ⟨#[]⟩, .int .i64 0, .int .i64 0]) 4 40 Tryz.underlying38 (unhide HI).1 (unhide HI).2.1 (unhide HI).2.2.1 (unhide HI).2.2.2 rfl (by decide) _ _ _ rfl ((unhide HA).own.alloc _) ⟨_, 0, none⟩ 1 1 [.int .i64 kd, .string ⟨tx.toArray⟩, .int .i64 nm, .int .i64 (m : Int)] rfl rfl (tok_cell _ _ _ _ _) (tok_one _ _ _ _) (by unfold maxLen; omega) (by omega) (by simp; omega) ?_; intro v' w9 hown' hgrow _)
              have HR := hide (show RkRel s w v' (.int .i64 ((m + n : Nat) : Int)) w9 from ⟨_, _, rfl, hide (rk_next (tx := tx) (unhide HH) (by exact unhide HA) (unhide HG) (unhide HT) (by exact hown') (by exact hgrow))⟩)
              clear hown' hgrow
              go_roundw
              case rel => rw [← unhide HQ]; exact unhide HR
              case measure => simp [intOf]; omega
          | false =>
            rw [hdg, if_neg (by simp)] at htk
            cases e34 : ((s[m].toNat : Int) == 34) with
            | true =>
              rw [if_pos (show s[m] = 34 from (bv_eq (k := 34) (by omega)).1 (beq_iff_eq.1 e34))] at htk
              have HC := hide (fun W => rtext_any s m hlt hs W)
              rw [← htk] at HC
              have HNC := hide (unhide HN5 0 hnm)
              go_wp2_with fail
              refine (unhide HGC).mono ?_
              rintro e w1 ⟨rfl, rfl⟩
              go_wp2_with fail
              rw [show (w1.alloc (.cells #[.int .i64 0, .string ⟨#[]⟩, .int .i64 0, .int .i64 0] 42)).alloc (.cells #[.int .i64 0, .int .i64 0] 31) = W5 from unhide HW5]
              refine (unhide HNC).mono ?_
              rintro e w1' ⟨rfl, rfl⟩
              go_wp2_with fail
              refine (digit_any _ _).mono ?_
              rintro e w5 ⟨rfl, rfl⟩
              rw [show isD (s[m].toNat : Int) = false from hdg]
              go_wp2_with fail
              refine (unhide HC _).mono ?_
              rintro e w6 ⟨rfl, b6⟩
              have hA6 := aft0 (w6 := w6) (unhide HH) (by rw [unhide HZ5] at b6; rw [show (w1.alloc tokZ).alloc fltZ = w5 from unhide HW5]; exact b6)
              cases ht : tokAt (s.data.toList.drop m) with
              | bad why o =>
                rw [show resT m (.bad why o) = ⟨0, ⟨#[]⟩, 0, 0, 0, why, ((m + o : Nat) : Int)⟩ from rfl]
                obtain ⟨w7, hS7, hA7⟩ := aft_tok (unhide HH).own (unhide HRB) hA6 0 0 0 ⟨#[]⟩
                obtain ⟨w8, hS8, hA⟩ := aft_flt (unhide HH).own (unhide HRB) hA7 why ((m + o : Nat) : Int)
                have hwz : (why == 0) = false := beq_eq_false_iff_ne.2 (tok_bad ht).1
                obtain ⟨q, hq⟩ : ∃ q : Int, ((m + o : Nat) : Int) = q := ⟨_, rfl⟩
                rw [hq] at hS8 hA ⊢
                have HQ := hide hq
                clear hq
                have HSC := hide (show scan 0 s.data.toList = .bad why (m + o) by rw [(unhide HH).sc]; exact app_bad _ _ _ _ (scan_bad (by rw [drop_at s m hlt]; simp) (unhide HG) ht))
                have hL := fl_load (w := w8) hA.ff
                have hL2 := fl_load (w := w8.drew) hA.ff
                obtain ⟨w9, hS9, z0, z1, bw, _⟩ := last (wr := w8.drew) hA.bel.drew hA.fr why q
                clear hA
                clear ht htk hA6 hA7 b6 HC hA0
                go_wp2_with fail
                go_region
                all_goals
                  go_wp2_with fail
                  refine bodyPost_ret (v := .tuple #[.slice none 0 0, .agg #[.int .i64 why, .int .i64 q]]) (by simp [results, Tryz.results14, go_sem, z0, z1]) rfl ?_
                  rw [unhide H, unhide HSC, ← unhide HQ]
                  exact ⟨_, rfl, World.ownsRow_nil _ _ _ _, bw⟩
              | tok kd tx nm n =>
                have hp := tok_pos ht
                rw [len_drop] at hp
                rw [show resT m (.tok kd tx nm n) = ⟨kd, ⟨tx.toArray⟩, nm, (m : Int), ((m + n : Nat) : Int), 0, 0⟩ from rfl]
                obtain ⟨w7, hS7, hA7⟩ := aft_tok (unhide HH).own (unhide HRB) hA6 kd nm (m : Int) ⟨tx.toArray⟩
                obtain ⟨w8, hS8, hA⟩ := aft_flt (unhide HH).own (unhide HRB) hA7 0 0
                clear htk hA6 hA7 b6 HC hA0
                obtain ⟨q, hq⟩ : ∃ q : Int, ((m + n : Nat) : Int) = q := ⟨_, rfl⟩
                rw [hq]
                have HQ := hide hq
                have hq1 : (m : Int) < q := by omega
                have hq2 : q ≤ 65536 := by omega
                clear hq
                have hL := fl_load (w := w8) hA.ff
                have hT := tk_load (w := w8) hA.ft
                have HA := hide hA
                have hz8 := hA.sz
                have hb8 := hA.bel.size
                have HT := hide ht
                clear hA ht
                go_wp2_with (at_builtin; refine wpList_append_own _ rfl _ _ 38 rfl (w.heap.size + 1) 42 i0 (.agg #[.int .i64 0, .string ⟨#[]⟩, .int .i64 0, .int .i64 0]) 4 40 Tryz.underlying38 (unhide HI).1 (unhide HI).2.1 (unhide HI).2.2.1 (unhide HI).2.2.2 rfl (by decide) _ _ _ rfl ((unhide HA).own.alloc _) ⟨_, 0, none⟩ 1 1 [.int .i64 kd, .string ⟨tx.toArray⟩, .int .i64 nm, .int .i64 (m : Int)] rfl rfl (tok_cell _ _ _ _ _) (tok_one _ _ _ _) (by unfold maxLen; omega) (by omega) (by simp; omega) ?_; intro v' w9 hown' hgrow _)
                have HR := hide (show RkRel s w v' (.int .i64 ((m + n : Nat) : Int)) w9 from ⟨_, _, rfl, hide (rk_next (tx := tx) (unhide HH) (by exact unhide HA) (unhide HG) (unhide HT) (by exact hown') (by exact hgrow))⟩)
                clear hown' hgrow
                go_roundw
                case rel => rw [← unhide HQ]; exact unhide HR
                case measure => simp [intOf]; omega
            | false =>
              rw [if_neg (fun e => beq_eq_false_iff_ne.1 e34 (by rw [e]; rfl))] at htk
              have hle := sg_le (s.data.toList.drop m)
              obtain ⟨n, hn⟩ : ∃ n, sgLen (s.data.toList.drop m) = n := ⟨_, rfl⟩
              rw [len_drop, hn] at hle
              obtain ⟨d, hd⟩ : ∃ d, sgStr s m = d := ⟨_, rfl⟩
              have hdl : d.data.toList = (s.data.toList.drop m).take n := by rw [← hd, sgStr, hn]
              have hds : d.size = n := by rw [size_len, hdl, List.length_take, len_drop]; omega
              have HC := hide (fun W => rsign_any s m hlt hs W)
              rw [hd] at HC
              have HNC := hide (unhide HN5 0 hnm)
              have HDS := hide hds
              go_wp2_with fail
              refine (unhide HGC).mono ?_
              rintro e w1 ⟨rfl, rfl⟩
              go_wp2_with fail
              rw [show (w1.alloc (.cells #[.int .i64 0, .string ⟨#[]⟩, .int .i64 0, .int .i64 0] 42)).alloc (.cells #[.int .i64 0, .int .i64 0] 31) = W5 from unhide HW5]
              refine (unhide HNC).mono ?_
              rintro e w1' ⟨rfl, rfl⟩
              go_wp2_with fail
              refine (digit_any _ _).mono ?_
              rintro e w5 ⟨rfl, rfl⟩
              rw [show isD (s[m].toNat : Int) = false from hdg]
              go_wp2_with fail
              refine (unhide HC _).mono ?_
              rintro e w6 ⟨rfl, b6⟩
              have hA6 := aft0 (w6 := w6) (unhide HH) (by rw [unhide HZ5] at b6; rw [show (w1.alloc tokZ).alloc fltZ = w5 from unhide HW5]; exact b6)
              obtain ⟨w8, hS8, hA⟩ := aft_tok (unhide HH).own (unhide HRB) hA6 4 0 (m : Int) d
              by_cases h0 : n = 0
              · have ht : tokAt (s.data.toList.drop m) = .bad 7 0 := by rw [htk]; unfold sgRes; rw [hn, if_pos h0]
                have hde : d = ⟨#[]⟩ := empty_of (by omega)
                have hA8 := hA
                clear hA
                subst hde
                clear hd hdl hds htk hn hnm hA6 b6 HC hA0
                go_wp2_with fail
                refine (fault_any _ _ _).mono ?_
                rintro e w7 ⟨rfl, b7⟩
                obtain ⟨w8', hS8', hA⟩ := aft_flt (unhide HH).own (unhide HRB) (aft_later (unhide HRB) (unhide HH).own hA8 b7) 7 (m : Int)
                clear hA8 b7
                have HSC := hide (show scan 0 s.data.toList = .bad 7 m by rw [(unhide HH).sc]; exact app_bad _ _ _ _ (scan_bad (by rw [drop_at s m hlt]; simp) (unhide HG) ht))
                have hL := fl_load (w := w8') hA.ff
                have hL2 := fl_load (w := w8'.drew) hA.ff
                obtain ⟨w9, hS9, z0, z1, bw, _⟩ := last (wr := w8'.drew) hA.bel.drew hA.fr 7 (m : Int)
                clear hA ht
                go_wp2_with fail
                go_region
                all_goals
                  go_wp2_with fail
                  refine bodyPost_ret (v := .tuple #[.slice none 0 0, .agg #[.int .i64 7, .int .i64 (m : Int)]]) (by simp [results, Tryz.results14, go_sem, z0, z1]) rfl ?_
                  rw [unhide H, unhide HSC]
                  exact ⟨_, rfl, World.ownsRow_nil _ _ _ _, bw⟩
              · have ht : tokAt (s.data.toList.drop m) = .tok 4 d.data.toList 0 n := by rw [htk]; unfold sgRes; rw [hn, if_neg h0, hdl]
                have hdn : d.toList.isEmpty = false := by
                  have : 0 < d.size := by omega
                  rw [Lib.toList_data, data_cons this]; rfl
                obtain ⟨q, hq⟩ : ∃ q : Int, (d.size : Int) = q := ⟨_, rfl⟩
                have HQ := hide (show q = (n : Int) by omega)
                have hq1 : 0 < q := by omega
                have hq2 : (m : Int) + q ≤ 65536 := by omega
                clear hd hdl hds htk hn hnm hA6 b6 HC hA0
                have hL := fl_load (w := w8) hA.ff
                have hT := tk_load (w := w8) hA.ft
                have HA := hide hA
                have hz8 := hA.sz
                have hb8 := hA.bel.size
                have HT := hide ht
                clear hA ht
                go_wp2_with (at_builtin; refine wpList_append_own _ rfl _ _ 38 rfl (w.heap.size + 1) 42 i0 (.agg #[.int .i64 0, .string ⟨#[]⟩, .int .i64 0, .int .i64 0]) 4 40 Tryz.underlying38 (unhide HI).1 (unhide HI).2.1 (unhide HI).2.2.1 (unhide HI).2.2.2 rfl (by decide) _ _ _ rfl ((unhide HA).own.alloc _) ⟨_, 0, none⟩ 1 1 [.int .i64 4, .string d, .int .i64 0, .int .i64 (m : Int)] rfl rfl (tok_cell _ _ _ _ _) (tok_one _ _ _ _) (by unfold maxLen; omega) (by omega) (by simp; omega) ?_; intro v' w9 hown' hgrow _)
                have HR := hide (show RkRel s w v' (.int .i64 ((m + n : Nat) : Int)) w9 from ⟨_, _, rfl, hide (rk_next (tx := d.data.toList) (unhide HH) (by rw [show (⟨d.data.toList.toArray⟩ : ByteArray) = d from (bytes_of rfl).symm]; exact unhide HA) (unhide HG) (unhide HT) (by rw [show (⟨d.data.toList.toArray⟩ : ByteArray) = d from (bytes_of rfl).symm]; exact hown') (by rw [show (⟨d.data.toList.toArray⟩ : ByteArray) = d from (bytes_of rfl).symm]; exact hgrow))⟩)
                clear hown' hgrow
                go_roundw
                case rel => rw [show (m : Int) + q = ((m + n : Nat) : Int) by rw [unhide HQ]; omega]; exact unhide HR
                case measure => simp [intOf]; omega
    · have HSC := hide (show scan 0 s.data.toList = .ok toks by rw [(unhide HH).sc, drop_end s m (by omega), scan_nil]; simp [Out.app])
      have HO := hide (unhide HH).own
      obtain ⟨w9, hS9, z0, z1, bw, HO2⟩ := last (unhide HH).bel (unhide HH).rb 0 0
      have HO3 := hide (out_own (unhide HO) HO2)
      clear HH HO HO2
      go_wp2_with fail
      refine bodyPost_ret (v := .tuple #[u4, .agg #[.int .i64 0, .int .i64 0]]) (by simp [results, Tryz.results14, go_sem, z0, z1]) rfl ?_
      rw [unhide H, unhide HSC]
      exact ⟨u4, rfl, unhide HO3, bw⟩
end Go.Proofs.YtcdobniommnflaaGreatDoor

namespace Go.Proofs.YtcdobniommnflaaGreatDoor
open Go.RowKit

theorem Ris.lt {n : Nat} : ∀ {l : List Tok} {k i j : Nat} {x y : Tok}, Ris k n l → l[i]? = some x → l[j]? = some y → i < j → x.at_ < y.at_
  | [], _, _, _, _, _, _, h, _, _ => by simp at h
  | t :: l, _, 0, 0, _, _, _, _, _, h => by omega
  | t :: l, _, 0, j + 1, x, y, hr, hx, hy, _ => by
    simp at hx hy
    subst hx
    have : ∀ {l : List Tok} {k j : Nat} {y : Tok}, Ris k n l → l[j]? = some y → k ≤ y.at_ := fun {l} => by
      induction l with
      | nil => intro k j y _ h; simp at h
      | cons t l ih =>
        intro k j y hr hy
        cases j with
        | zero => simp at hy; subst hy; exact hr.1
        | succ j => have := ih hr.2.2 (by simpa using hy); have := hr.1; omega
    have := this hr.2.2 hy
    omega
  | t :: l, _, i + 1, 0, _, _, _, _, _, h => by omega
  | t :: l, _, i + 1, j + 1, x, y, hr, hx, hy, h => Ris.lt hr.2.2 (by simpa using hx) (by simpa using hy) (by omega)
theorem Ris.inj {n k i j : Nat} {l : List Tok} {x y : Tok} (h : Ris k n l) (hx : l[i]? = some x) (hy : l[j]? = some y) (e : x.at_ = y.at_) : i = j := by
  rcases Nat.lt_trichotomy i j with h1 | h1 | h1
  · have := h.lt hx hy h1; omega
  · exact h1
  · have := h.lt hy hx h1; omega
/-- The first wrong token is told, whatever stands behind the token behind it. -/
theorem first_pure {s u : Txt} {l m : List Tok} {a : Int} {r : List Tok} {i : Nat} {t : Tok} (hs : lexP s = .ok l) (hu : lexP u = .ok m) (hb : parseP s = .bad 10 a r) (ht : l[i]? = some t) (ha : (t.at_ : Int) = a) (hl : i + 2 ≤ l.length) (hm : i + 2 ≤ m.length) (he : l.take (i + 2) = m.take (i + 2)) : ∃ r2, parseP u = .bad 10 a r2 := by
  have hR := lex_ris s
  rw [hs] at hR
  unfold parseP at hb ⊢
  rw [hs] at hb
  rw [hu]
  have hL := prog_first (e := s.length) (e' := u.length) (d := 32) (top := true) (it := 0) (⟨hl, hm, he⟩ : Agr (i + 2) l m)
  have hb' : progD s.length 32 true l 0 = .bad 10 a r := hb
  rw [hb'] at hL
  obtain ⟨c, h1, h2, h3⟩ := hL
  have hc : c = i := by
    subst h1
    by_cases hc : c < l.length
    · have e1 : ahd s.length 0 (l.drop c) = l[c] := by
        unfold ahd
        rw [List.getD_eq_getElem?_getD, List.getElem?_drop, Nat.add_zero, List.getElem?_eq_getElem hc]; rfl
      rw [e1] at h2
      exact hR.inj (List.getElem?_eq_getElem hc) ht (by omega)
    · have e1 : ahd s.length 0 (l.drop c) = ⟨0, [], 0, s.length⟩ := by
        unfold ahd
        rw [List.getD_eq_getElem?_getD, List.getElem?_drop, List.getElem?_eq_none (by omega)]; rfl
      rw [e1] at h2
      have := hR.at t (List.mem_of_getElem? ht)
      have h2' : a = (s.length : Int) := h2
      omega
  exact ⟨_, h3 (by omega)⟩
set_option maxRecDepth 100000 in
set_option maxHeartbeats 4000000 in
theorem same_told (v1 v2 : Value) (l1 l2 : List Tok) (w : World) (h1 : SlAt w v1 l1) (h2 : SlAt w v2 l2) (hl : l1.length = l2.length) :
    Calls Tryz.prog 15 #[v1, v2, .bool true] w fun e w' => ∃ b, e = .returned (.bool b) ∧ (b = true → l1 = l2) ∧ Below w.heap.size w w' := by
  obtain ⟨a1, c1, rfl, l1c, m1, r1⟩ := h1
  obtain ⟨a2, c2, rfl, l2c, m2, r2⟩ := h2
  obtain ⟨n, hn⟩ : ∃ n, l1.length = n := ⟨_, rfl⟩
  have hn2 : l2.length = n := by omega
  rw [hn] at l1c ⊢
  rw [hn2] at l2c ⊢
  unfold maxLen at m1 m2
  have HN := hide (show l1.length = n ∧ l2.length = n from ⟨hn, hn2⟩)
  have HR1 := hide r1
  have HR2 := hide r2
  clear r1 r2 hn hn2 hl
  go_enter Tryz.func15, Tryz.ntmps15
  go_wp2_with fail
  go_loopw [7] (fun i wr => ∃ j : Nat, i = .int .i64 (j : Int) ∧ j ≤ n ∧ Hid (Below w.heap.size w wr ∧ ∀ q x y, q < j → l1[q]? = some x → l2[q]? = some y → x = y)) (fun i _ => n - (intOf i).toNat)
  case atStart => exact ⟨0, rfl, Nat.zero_le _, hide ⟨Below.refl _ _, fun q _ _ h => absurd h (Nat.not_lt_zero _)⟩⟩
  case round =>
    obtain ⟨j, rfl, hj, HB⟩ := hrel
    by_cases hlt : j < n
    · obtain ⟨x, hx⟩ : ∃ x, l1[j]? = some x := ⟨l1[j]'(by rw [(unhide HN).1]; exact hlt), List.getElem?_eq_getElem _⟩
      obtain ⟨y, hy⟩ : ∃ y, l2[j]? = some y := ⟨l2[j]'(by rw [(unhide HN).2]; exact hlt), List.getElem?_eq_getElem _⟩
      obtain ⟨g1, rfl, hr1⟩ : ∃ g, a1 = some ⟨g, 0, none⟩ ∧ RowAt w g c1 l1 := by
        rcases unhide HR1 with h | h
        · rw [h] at hx; simp at hx
        · exact h
      obtain ⟨g2, rfl, hr2⟩ : ∃ g, a2 = some ⟨g, 0, none⟩ ∧ RowAt w g c2 l2 := by
        rcases unhide HR2 with h | h
        · rw [h] at hy; simp at hy
        · exact h
      have hb := (unhide HB).1
      obtain ⟨x0, x1, x2, x3⟩ := (hr1.later hb).cells j x hx
      obtain ⟨y0, y1, y2, y3⟩ := (hr2.later hb).cells j y hy
      have lt1 := (hr1.later hb).lt
      have lt2 := (hr2.later hb).lt
      have HXY := hide (And.intro hx hy)
      clear hr1 hr2 hb hx hy HR1 HR2
      by_cases e0 : x.kind = y.kind
      · by_cases e1 : x.text = y.text
        · by_cases e2 : x.num = y.num
          · by_cases e3 : x.at_ = y.at_
            · have HE : Hid (x = y) := by cases x; cases y; simp only at e0 e1 e2 e3; subst e0; subst e1; subst e2; subst e3; rfl
              rw [← e0] at y0
              rw [← e1] at y1
              rw [← e2] at y2
              rw [← e3] at y3
              clear e0 e1 e2 e3
              go_wp2_with fail
              go_region
              all_goals
                go_wp2_with fail
                go_roundw
                case rel =>
                  obtain ⟨hb, hall⟩ := unhide HB
                  refine ⟨j + 1, by go_num, by omega, hide ⟨((hb.alloc hb.size _).alloc (by simp; have := hb.size; omega) _).drew, fun q x' y' hq hx' hy' => ?_⟩⟩
                  by_cases e : q = j
                  · subst e
                    rw [(unhide HXY).1] at hx'
                    rw [(unhide HXY).2] at hy'
                    cases hx'
                    cases hy'
                    exact unhide HE
                  · exact hall q x' y' (by omega) hx' hy'
                case measure => simp [intOf]; omega
            · have g3 : ((x.at_ : Int) == (y.at_ : Int)) = false := by simp; omega
              rw [← e0] at y0
              rw [← e1] at y1
              rw [← e2] at y2
              clear e0 e1 e2 e3
              go_wp2_with fail
              go_region
              all_goals
                go_wp2_with fail
                go_ret
                have hb := (unhide HB).1
                exact ⟨false, rfl, fun h => (by cases h), ((hb.alloc hb.size _).alloc (by simp; have := hb.size; omega) _).drew⟩
          · have g2 : (x.num == y.num) = false := by simpa using e2
            rw [← e0] at y0
            rw [← e1] at y1
            clear e0 e1 e2
            go_wp2_with fail
            go_region
            all_goals
              go_wp2_with fail
              go_ret
              have hb := (unhide HB).1
              exact ⟨false, rfl, fun h => (by cases h), ((hb.alloc hb.size _).alloc (by simp; have := hb.size; omega) _).drew⟩
        · have g1 : (x.text == y.text) = false := by simpa using e1
          rw [← e0] at y0
          clear e0 e1
          go_wp2_with fail
          go_region
          all_goals
            go_wp2_with fail
            go_ret
            have hb := (unhide HB).1
            exact ⟨false, rfl, fun h => (by cases h), ((hb.alloc hb.size _).alloc (by simp; have := hb.size; omega) _).drew⟩
      · have g0 : (x.kind == y.kind) = false := by simpa using e0
        clear e0
        go_wp2_with fail
        go_region
        all_goals
          go_wp2_with fail
          go_ret
          have hb := (unhide HB).1
          exact ⟨false, rfl, fun h => (by cases h), ((hb.alloc hb.size _).alloc (by simp; have := hb.size; omega) _).drew⟩
    · have HF := unhide HB
      have HFF := hide HF
      clear HF
      go_wp2_with fail
      go_ret
      obtain ⟨bw, hall⟩ := unhide HFF
      refine ⟨true, rfl, fun _ => ?_, bw⟩
      apply List.ext_getElem?
      intro q
      by_cases hq : q < n
      · have q1 : q < l1.length := by rw [(unhide HN).1]; exact hq
        have q2 : q < l2.length := by rw [(unhide HN).2]; exact hq
        rw [List.getElem?_eq_getElem q1, List.getElem?_eq_getElem q2, hall q _ _ (by omega) (List.getElem?_eq_getElem q1) (List.getElem?_eq_getElem q2)]
      · rw [List.getElem?_eq_none (by rw [(unhide HN).1]; omega), List.getElem?_eq_none (by rw [(unhide HN).2]; omega)]
end Go.Proofs.YtcdobniommnflaaGreatDoor
