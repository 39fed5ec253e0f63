/- Walk of the document's Tokens: its rounds. The document's Tokens, of any text; regions. A region that leaves its order open: where two or three operations are ready, every way. Boxes of a program and of a fault that are filled in a drawn region. The document's reader: its state; well, now, fails, enter. -/
import Derived.Test.YtfmbpaoapjmdnaaQb07
import Derived.Test.YtfmbpaoapjmdnaaQb06
import Derived.Test.YtfmbpaoapjmdnaaQb04
set_option maxRecDepth 100000
set_option maxHeartbeats 32000000
namespace Go.Proofs.Ytfmbpaoapjmdnaa
section
open Go.RowKit
theorem nm0 {s : ByteArray} {m : Nat} (h : m < s.size) : rnm (s.data.toList.drop m) = if isL (bv s[m]) then nmLen (s.data.toList.drop m) else 0 := by
 unfold rnm
 rw [Qan s m h, Qgd]
 cases hl : isL (bv s[m]) with
 | true => simp
 | false => simp

attribute [local go_sem ↓] Qdo Qha Qee Qio
theorem Qjt (s : ByteArray) (hs : s.size ≤ 65536) (w : World) :
  Calls Try.prog 15 #[.string s] w fun e w' => TokAns (lexP s.data.toList) w w' e := by
 have H := hide (show lexP s.data.toList = scan 0 s.data.toList by unfold lexP; rw [← Qct, if_neg (by omega)])
 obtain ⟨i0, hi, hz0, hz1, hz2⟩ := Qfr
 have HI := hide (show Try.prog.info? 54 = some i0 ∧ i0.zero = some (.agg #[.int .i64 0, .string ⟨#[]⟩, .int .i64 0, .int .i64 0]) ∧ i0.size = 4 ∧ i0.bytes = 40 from ⟨hi, hz0, hz1, hz2⟩)
 have HST := hide (show RkInv s w (.slice none 0 0) (w.alloc fltZ) [] 0 from ⟨World.ownsRow_nil _ _ _ _, (Below.refl _ w).alloc (Nat.le_refl _) _, heap_alloc_new w _, Nat.zero_le _, Nat.zero_le _, by rw [List.drop_zero, app_nil]⟩)
 obtain ⟨W1, hW1⟩ : ∃ W1, w.alloc fltZ = W1 := ⟨_, rfl⟩
 have HW1 := hide hW1
 rw [hW1] at HST
 clear hi hz0 hz1 hz2 hW1
 go_enter Try.func15, Try.ntmps15
 go_wp2_with fail
 rw [show w.alloc (.cells #[.int .i64 0, .int .i64 0] 31) = W1 from Qa HW1]
 go_loopw [4, 5] (fun v i wr => RkRel s w v i wr) (fun _ i _ => s.size - (intOf i).toNat)
 case atStart => exact ⟨[], 0, rfl, HST⟩
 clear HST HW1
 obtain ⟨toks, m, rfl, HH⟩ := hrel
 have hms := (Qa HH).ms
 have htl := (Qa HH).tl
 have hbsz := (Qa HH).bel.size
 by_cases hlt : m < s.size
 ·
  have HBX0 := hide (Qa HH).bel
  have HRX0 := hide (Qa HH).rb
  have HRB := hide (Array.getElem?_eq_some_iff.1 (Qa HH).rb).1
  have HGC := hide (Qqe s m hlt (by omega) wr)
  cases hg : gapAt (s.data.toList.drop m) with
  | never =>
   rw [hg] at HGC
   have HBX := HBX0
   have HRX := HRX0
   have hneg : gapV m .never = -1 := rfl
   rw [hneg] at HGC
   go_wp2_with fail
   refine (Qa HGC).mono ?_
   rintro e w1 ⟨rfl, rfl⟩
   have HSC := hide (show scan 0 s.data.toList = .bad 7 m by rw [(Qa HH).sc, Qd hg]; rfl)
   go_wp2_with fail
   refine (Qbh _ _ _).mono ?_
   rintro e w3 ⟨rfl, b3⟩
   have bel3 := (Qa HBX).trans (b3.mono (Qa HBX).size)
   have fr3 : w3.heap[w.heap.size]? = some fltZ := by rw [b3.block _ (Array.getElem?_eq_some_iff.1 (Qa HRX)).1]; exact Qa HRX
   obtain ⟨w9, hS9, z0, z1, bw, _⟩ := last bel3 fr3 7 (m : Int)
   clear b3 bel3 fr3
   go_wp2_with fail
   refine bodyPost_ret (v := .tuple #[.slice none 0 0, .agg #[.int .i64 7, .int .i64 (m : Int)]]) (by simp [results, Try.results15, go_sem, z0, z1]) rfl ?_
   rw [Qa H, Qa HSC]
   exact ⟨_, rfl, World.ownsRow_nil _ _ _ _, bw⟩
  | gap n =>
   have hp := Qdf hg
   rw [Qbg] at hp
   rw [hg, show gapV m (.gap n) = (m : Int) + (n : Int) from rfl] at HGC
   have HR := hide (show RkRel s w u4 (.int .i64 ((m + n : Nat) : Int)) wr from ⟨_, _, rfl, hide ⟨(Qa HH).own, (Qa HH).bel, (Qa HH).rb, by omega, by omega, by rw [(Qa HH).sc, Qdn hg, List.drop_drop]⟩⟩)
   have h1 : decide ((m : Int) < (m : Int) + (n : Int)) = true := decide_eq_true (by omega)
   have h2 : decide ((m : Int) + (n : Int) < 0) = false := decide_eq_false (by omega)
   go_wp2_with fail
   refine (Qa HGC).mono ?_
   rintro e w1 ⟨rfl, rfl⟩
   go_wp2_with fail
   go_roundw
   case rel => exact Qa HR
   case measure => simp [intOf]; omega
  | none =>
   rw [hg, show gapV m .none = (m : Int) from rfl] at HGC
   have HG := hide hg
   clear hg
   have hS1 := tk_new wr 0 0 0 ⟨#[]⟩
   have hS2 := fl_new (wr.alloc tokZ) 0 0
   rw [show (wr.alloc tokZ).heap.size = wr.heap.size + 1 by simp] at hS2
   have htk := Qdp s[m] (s.data.toList.drop (m + 1))
   rw [← Qan s m hlt] at htk
   have hnm := nm0 hlt
   have hA0 := aft0 (Qa HH) (Below.refl _ _)
   have HBX := hide hA0.bel
   have HRX := hide hA0.fr
   obtain ⟨W5, hW5⟩ : ∃ W5, (wr.alloc tokZ).alloc fltZ = W5 := ⟨_, rfl⟩
   have HW5 := hide hW5
   have hsz5 : W5.heap.size = wr.heap.size + 2 := by rw [← hW5]; simp
   have HZ5 := hide hsz5
   have HN5 := hide (show ∀ n, rnm (s.data.toList.drop m) = n → Calls Try.prog 45 #[.string s, .int .i64 (m : Int)] ((wr.alloc tokZ).alloc fltZ) fun e w' => e = .returned (.int .i64 (n : Int)) ∧ w' = (wr.alloc tokZ).alloc fltZ from
    fun n hn => by have := Qoc s m (by omega) (by omega) ((wr.alloc tokZ).alloc fltZ); rwa [hn] at this)
   rw [hW5] at hA0 HBX HRX HN5
   clear hW5 hsz5
   cases hl : isL (bv s[m]) with
   | true =>
    rw [hl, if_pos rfl] at hnm htk
    obtain ⟨n, hn⟩ : ∃ n, nmLen (s.data.toList.drop m) = n := ⟨_, rfl⟩
    have hle := Qpu (s.data.toList.drop m)
    rw [Qbg, hn] at hle
    have hpos : 0 < n := by rw [← hn, Qan s m hlt, Qpt (Qmu hl)]; omega
    have HNC := hide (Qa HN5 n (by rw [hnm, hn]))
    by_cases h64 : 64 < n
    ·
     have ht : tokAt (s.data.toList.drop m) = .bad 2 0 := by rw [htk]; unfold nmRes; rw [hn, if_pos h64]
     clear hA0 hnm
     go_wp2_with fail
     refine (Qa HGC).mono ?_
     rintro e w1 ⟨rfl, rfl⟩
     go_wp2_with fail
     rw [show (w1.alloc (.cells #[.int .i64 0, .string ⟨#[]⟩, .int .i64 0, .int .i64 0] 54)).alloc (.cells #[.int .i64 0, .int .i64 0] 31) = W5 from Qa HW5]
     refine (Qa HNC).mono ?_
     rintro e w1' ⟨rfl, rfl⟩
     have HSC := hide (show scan 0 s.data.toList = .bad 2 m by rw [(Qa HH).sc]; exact Qhg _ _ _ _ (Qcs (by rw [Qan s m hlt]; simp) (Qa HG) ht))
     go_wp2_with fail
     refine (Qbh _ _ _).mono ?_
     rintro e w3 ⟨rfl, b3⟩
     have bel3 := (Qa HBX).trans (b3.mono (Qa HBX).size)
     have fr3 : w3.heap[w.heap.size]? = some fltZ := by rw [b3.block _ (Array.getElem?_eq_some_iff.1 (Qa HRX)).1]; exact Qa HRX
     obtain ⟨w9, hS9, z0, z1, bw, _⟩ := last bel3 fr3 2 (m : Int)
     clear b3 bel3 fr3
     go_wp2_with fail
     refine bodyPost_ret (v := .tuple #[.slice none 0 0, .agg #[.int .i64 2, .int .i64 (m : Int)]]) (by simp [results, Try.results15, go_sem, z0, z1]) rfl ?_
     rw [Qa H, Qa HSC]
     exact ⟨_, rfl, World.ownsRow_nil _ _ _ _, bw⟩
    have hrun := Qiv s m n (m : Int) ((m : Int) + (n : Int)) rfl (by omega) (by omega)
    obtain ⟨u, hu⟩ : ∃ u, s.extract m (m + n) = u := ⟨_, rfl⟩
    have hul : u.data.toList = (s.data.toList.drop m).take n := by rw [← hu]; exact Qik s m n
    rw [hu] at hrun
    have ht : tokAt (s.data.toList.drop m) = .tok 1 u.data.toList 0 n := by rw [htk]; unfold nmRes; rw [hn, if_neg h64, hul]
    obtain ⟨w8, hS8, hA⟩ := Qeo (Qa HH).own (Qa HRB) hA0 1 0 (m : Int) u
    clear hu hul hA0 htk hnm hn
    go_wp2_with fail
    refine (Qa HGC).mono ?_
    rintro e w1 ⟨rfl, rfl⟩
    go_wp2_with fail
    rw [show (w1.alloc (.cells #[.int .i64 0, .string ⟨#[]⟩, .int .i64 0, .int .i64 0] 54)).alloc (.cells #[.int .i64 0, .int .i64 0] 31) = W5 from Qa HW5]
    refine (Qa HNC).mono ?_
    rintro e w1' ⟨rfl, rfl⟩
    have hL := Qcv (w := w8) hA.ff
    have hT := Qhw (w := w8) hA.ft
    have HA := hide hA
    have hz8 := hA.sz
    have hb8 := hA.bel.size
    have HT := hide ht
    clear hA ht
    go_wp2_with (at_builtin; refine wpList_append_own _ rfl _ _ 50 rfl (w.heap.size + 1) 54 i0 (.agg #[.int .i64 0, .string ⟨#[]⟩, .int .i64 0, .int .i64 0]) 4 40 Try.underlying50 (Qa HI).1 (Qa HI).2.1 (Qa HI).2.2.1 (Qa HI).2.2.2 rfl (by decide) _ _ _ rfl ((Qa HA).own.alloc _) ⟨_, 0, none⟩ 1 1 [.int .i64 1, .string u, .int .i64 0, .int .i64 (m : Int)] rfl rfl (Qfe _ _ _ _ _) (Qhx _ _ _ _) (by unfold maxLen; omega) (by omega) (by simp; omega) ?_; intro v' w9 hown' hgrow _)
    have HR := hide (show RkRel s w v' (.int .i64 ((m + n : Nat) : Int)) w9 from ⟨_, _, rfl, hide (Qhv (tx := u.data.toList) (Qa HH) (by rw [show (⟨u.data.toList.toArray⟩ : ByteArray) = u from (Qdj rfl).symm]; exact Qa HA) (Qa HG) (Qa HT) (by rw [show (⟨u.data.toList.toArray⟩ : ByteArray) = u from (Qdj rfl).symm]; exact hown') (by rw [show (⟨u.data.toList.toArray⟩ : ByteArray) = u from (Qdj rfl).symm]; exact hgrow))⟩)
    clear hown' hgrow
    go_roundw
    case rel => exact Qa HR
    case measure => simp [intOf]; omega
   | false =>
    rw [hl, if_neg (by simp)] at hnm htk
    cases hdg : isD (bv s[m]) with
    | true =>
     rw [hdg, if_pos rfl] at htk
     have HC := hide (fun W => Qjs s m hlt hdg hs W)
     rw [← htk] at HC
     have HNC := hide (Qa HN5 0 hnm)
     go_wp2_with fail
     refine (Qa HGC).mono ?_
     rintro e w1 ⟨rfl, rfl⟩
     go_wp2_with fail
     rw [show (w1.alloc (.cells #[.int .i64 0, .string ⟨#[]⟩, .int .i64 0, .int .i64 0] 54)).alloc (.cells #[.int .i64 0, .int .i64 0] 31) = W5 from Qa HW5]
     refine (Qa HNC).mono ?_
     rintro e w1' ⟨rfl, rfl⟩
     go_wp2_with fail
     refine (Qbf _ _).mono ?_
     rintro e w5 ⟨rfl, rfl⟩
     rw [show isD (s[m].toNat : Int) = true from hdg]
     go_wp2_with fail
     refine (Qa HC _).mono ?_
     rintro e w6 ⟨rfl, b6⟩
     have hA6 := aft0 (w6 := w6) (Qa HH) (by rw [Qa HZ5] at b6; rw [show (w1.alloc tokZ).alloc fltZ = w5 from Qa HW5]; exact b6)
     cases ht : tokAt (s.data.toList.drop m) with
     | bad why o =>
      rw [show resT m (.bad why o) = ⟨0, ⟨#[]⟩, 0, 0, 0, why, ((m + o : Nat) : Int)⟩ from rfl]
      obtain ⟨w7, hS7, hA7⟩ := Qeo (Qa HH).own (Qa HRB) hA6 0 0 0 ⟨#[]⟩
      obtain ⟨w8, hS8, hA⟩ := Qfh (Qa HH).own (Qa HRB) hA7 why ((m + o : Nat) : Int)
      have hwz : (why == 0) = false := beq_eq_false_iff_ne.2 (Qjx ht).1
      obtain ⟨q, hq⟩ : ∃ q : Int, ((m + o : Nat) : Int) = q := ⟨_, rfl⟩
      rw [hq] at hS8 hA ⊢
      have HQ := hide hq
      clear hq
      have HSC := hide (show scan 0 s.data.toList = .bad why (m + o) by rw [(Qa HH).sc]; exact Qhg _ _ _ _ (Qcs (by rw [Qan s m hlt]; simp) (Qa HG) ht))
      have hL := Qcv (w := w8) hA.ff
      have hL2 := Qcv (w := w8.drew) hA.ff
      obtain ⟨w9, hS9, z0, z1, bw, _⟩ := last (wr := w8.drew) hA.bel.drew hA.fr why q
      clear hA
      clear ht htk hA6 hA7 b6 HC hA0
      go_wp2_with fail
      go_region
      all_goals
       go_wp2_with fail
       refine bodyPost_ret (v := .tuple #[.slice none 0 0, .agg #[.int .i64 why, .int .i64 q]]) (by simp [results, Try.results15, go_sem, z0, z1]) rfl ?_
       rw [Qa H, Qa HSC, ← Qa HQ]
       exact ⟨_, rfl, World.ownsRow_nil _ _ _ _, bw⟩
     | tok kd tx nm n =>
      have hp := Qcw ht
      rw [Qbg] at hp
      rw [show resT m (.tok kd tx nm n) = ⟨kd, ⟨tx.toArray⟩, nm, (m : Int), ((m + n : Nat) : Int), 0, 0⟩ from rfl]
      obtain ⟨w7, hS7, hA7⟩ := Qeo (Qa HH).own (Qa HRB) hA6 kd nm (m : Int) ⟨tx.toArray⟩
      obtain ⟨w8, hS8, hA⟩ := Qfh (Qa HH).own (Qa HRB) hA7 0 0
      clear htk hA6 hA7 b6 HC hA0
      obtain ⟨q, hq⟩ : ∃ q : Int, ((m + n : Nat) : Int) = q := ⟨_, rfl⟩
      rw [hq]
      have HQ := hide hq
      have hq1 : (m : Int) < q := by omega
      have hq2 : q ≤ 65536 := by omega
      clear hq
      have hL := Qcv (w := w8) hA.ff
      have hT := Qhw (w := w8) hA.ft
      have HA := hide hA
      have hz8 := hA.sz
      have hb8 := hA.bel.size
      have HT := hide ht
      clear hA ht
      go_wp2_with (at_builtin; refine wpList_append_own _ rfl _ _ 50 rfl (w.heap.size + 1) 54 i0 (.agg #[.int .i64 0, .string ⟨#[]⟩, .int .i64 0, .int .i64 0]) 4 40 Try.underlying50 (Qa HI).1 (Qa HI).2.1 (Qa HI).2.2.1 (Qa HI).2.2.2 rfl (by decide) _ _ _ rfl ((Qa HA).own.alloc _) ⟨_, 0, none⟩ 1 1 [.int .i64 kd, .string ⟨tx.toArray⟩, .int .i64 nm, .int .i64 (m : Int)] rfl rfl (Qfe _ _ _ _ _) (Qhx _ _ _ _) (by unfold maxLen; omega) (by omega) (by simp; omega) ?_; intro v' w9 hown' hgrow _)
      have HR := hide (show RkRel s w v' (.int .i64 ((m + n : Nat) : Int)) w9 from ⟨_, _, rfl, hide (Qhv (tx := tx) (Qa HH) (by exact Qa HA) (Qa HG) (Qa HT) (by exact hown') (by exact hgrow))⟩)
      clear hown' hgrow
      go_roundw
      case rel => rw [← Qa HQ]; exact Qa HR
      case measure => simp [intOf]; omega
    | false =>
     rw [hdg, if_neg (by simp)] at htk
     cases e34 : ((s[m].toNat : Int) == 34) with
     | true =>
      rw [if_pos (show s[m] = 34 from (Qfj (k := 34) (by omega)).1 (beq_iff_eq.1 e34))] at htk
      have HC := hide (fun W => Qoh s m hlt hs W)
      rw [← htk] at HC
      have HNC := hide (Qa HN5 0 hnm)
      go_wp2_with fail
      refine (Qa HGC).mono ?_
      rintro e w1 ⟨rfl, rfl⟩
      go_wp2_with fail
      rw [show (w1.alloc (.cells #[.int .i64 0, .string ⟨#[]⟩, .int .i64 0, .int .i64 0] 54)).alloc (.cells #[.int .i64 0, .int .i64 0] 31) = W5 from Qa HW5]
      refine (Qa HNC).mono ?_
      rintro e w1' ⟨rfl, rfl⟩
      go_wp2_with fail
      refine (Qbf _ _).mono ?_
      rintro e w5 ⟨rfl, rfl⟩
      rw [show isD (s[m].toNat : Int) = false from hdg]
      go_wp2_with fail
      refine (Qa HC _).mono ?_
      rintro e w6 ⟨rfl, b6⟩
      have hA6 := aft0 (w6 := w6) (Qa HH) (by rw [Qa HZ5] at b6; rw [show (w1.alloc tokZ).alloc fltZ = w5 from Qa HW5]; exact b6)
      cases ht : tokAt (s.data.toList.drop m) with
      | bad why o =>
       rw [show resT m (.bad why o) = ⟨0, ⟨#[]⟩, 0, 0, 0, why, ((m + o : Nat) : Int)⟩ from rfl]
       obtain ⟨w7, hS7, hA7⟩ := Qeo (Qa HH).own (Qa HRB) hA6 0 0 0 ⟨#[]⟩
       obtain ⟨w8, hS8, hA⟩ := Qfh (Qa HH).own (Qa HRB) hA7 why ((m + o : Nat) : Int)
       have hwz : (why == 0) = false := beq_eq_false_iff_ne.2 (Qjx ht).1
       obtain ⟨q, hq⟩ : ∃ q : Int, ((m + o : Nat) : Int) = q := ⟨_, rfl⟩
       rw [hq] at hS8 hA ⊢
       have HQ := hide hq
       clear hq
       have HSC := hide (show scan 0 s.data.toList = .bad why (m + o) by rw [(Qa HH).sc]; exact Qhg _ _ _ _ (Qcs (by rw [Qan s m hlt]; simp) (Qa HG) ht))
       have hL := Qcv (w := w8) hA.ff
       have hL2 := Qcv (w := w8.drew) hA.ff
       obtain ⟨w9, hS9, z0, z1, bw, _⟩ := last (wr := w8.drew) hA.bel.drew hA.fr why q
       clear hA
       clear ht htk hA6 hA7 b6 HC hA0
       go_wp2_with fail
       go_region
       all_goals
        go_wp2_with fail
        refine bodyPost_ret (v := .tuple #[.slice none 0 0, .agg #[.int .i64 why, .int .i64 q]]) (by simp [results, Try.results15, go_sem, z0, z1]) rfl ?_
        rw [Qa H, Qa HSC, ← Qa HQ]
        exact ⟨_, rfl, World.ownsRow_nil _ _ _ _, bw⟩
      | tok kd tx nm n =>
       have hp := Qcw ht
       rw [Qbg] at hp
       rw [show resT m (.tok kd tx nm n) = ⟨kd, ⟨tx.toArray⟩, nm, (m : Int), ((m + n : Nat) : Int), 0, 0⟩ from rfl]
       obtain ⟨w7, hS7, hA7⟩ := Qeo (Qa HH).own (Qa HRB) hA6 kd nm (m : Int) ⟨tx.toArray⟩
       obtain ⟨w8, hS8, hA⟩ := Qfh (Qa HH).own (Qa HRB) hA7 0 0
       clear htk hA6 hA7 b6 HC hA0
       obtain ⟨q, hq⟩ : ∃ q : Int, ((m + n : Nat) : Int) = q := ⟨_, rfl⟩
       rw [hq]
       have HQ := hide hq
       have hq1 : (m : Int) < q := by omega
       have hq2 : q ≤ 65536 := by omega
       clear hq
       have hL := Qcv (w := w8) hA.ff
       have hT := Qhw (w := w8) hA.ft
       have HA := hide hA
       have hz8 := hA.sz
       have hb8 := hA.bel.size
       have HT := hide ht
       clear hA ht
       go_wp2_with (at_builtin; refine wpList_append_own _ rfl _ _ 50 rfl (w.heap.size + 1) 54 i0 (.agg #[.int .i64 0, .string ⟨#[]⟩, .int .i64 0, .int .i64 0]) 4 40 Try.underlying50 (Qa HI).1 (Qa HI).2.1 (Qa HI).2.2.1 (Qa HI).2.2.2 rfl (by decide) _ _ _ rfl ((Qa HA).own.alloc _) ⟨_, 0, none⟩ 1 1 [.int .i64 kd, .string ⟨tx.toArray⟩, .int .i64 nm, .int .i64 (m : Int)] rfl rfl (Qfe _ _ _ _ _) (Qhx _ _ _ _) (by unfold maxLen; omega) (by omega) (by simp; omega) ?_; intro v' w9 hown' hgrow _)
       have HR := hide (show RkRel s w v' (.int .i64 ((m + n : Nat) : Int)) w9 from ⟨_, _, rfl, hide (Qhv (tx := tx) (Qa HH) (by exact Qa HA) (Qa HG) (Qa HT) (by exact hown') (by exact hgrow))⟩)
       clear hown' hgrow
       go_roundw
       case rel => rw [← Qa HQ]; exact Qa HR
       case measure => simp [intOf]; omega
     | false =>
      rw [if_neg (fun e => beq_eq_false_iff_ne.1 e34 (by rw [e]; rfl))] at htk
      have hle := sg_le (s.data.toList.drop m)
      obtain ⟨n, hn⟩ : ∃ n, sgLen (s.data.toList.drop m) = n := ⟨_, rfl⟩
      rw [Qbg, hn] at hle
      obtain ⟨d, hd⟩ : ∃ d, sgStr s m = d := ⟨_, rfl⟩
      have hdl : d.data.toList = (s.data.toList.drop m).take n := by rw [← hd, sgStr, hn]
      have hds : d.size = n := by rw [Qct, hdl, List.length_take, Qbg]; omega
      have HC := hide (fun W => Qog s m hlt hs W)
      rw [hd] at HC
      have HNC := hide (Qa HN5 0 hnm)
      have HDS := hide hds
      go_wp2_with fail
      refine (Qa HGC).mono ?_
      rintro e w1 ⟨rfl, rfl⟩
      go_wp2_with fail
      rw [show (w1.alloc (.cells #[.int .i64 0, .string ⟨#[]⟩, .int .i64 0, .int .i64 0] 54)).alloc (.cells #[.int .i64 0, .int .i64 0] 31) = W5 from Qa HW5]
      refine (Qa HNC).mono ?_
      rintro e w1' ⟨rfl, rfl⟩
      go_wp2_with fail
      refine (Qbf _ _).mono ?_
      rintro e w5 ⟨rfl, rfl⟩
      rw [show isD (s[m].toNat : Int) = false from hdg]
      go_wp2_with fail
      refine (Qa HC _).mono ?_
      rintro e w6 ⟨rfl, b6⟩
      have hA6 := aft0 (w6 := w6) (Qa HH) (by rw [Qa HZ5] at b6; rw [show (w1.alloc tokZ).alloc fltZ = w5 from Qa HW5]; exact b6)
      obtain ⟨w8, hS8, hA⟩ := Qeo (Qa HH).own (Qa HRB) hA6 4 0 (m : Int) d
      by_cases h0 : n = 0
      ·
       have ht : tokAt (s.data.toList.drop m) = .bad 7 0 := by rw [htk]; unfold sgRes; rw [hn, if_pos h0]
       have hde : d = ⟨#[]⟩ := Qkd (by omega)
       have hA8 := hA
       clear hA
       subst hde
       clear hd hdl hds htk hn hnm hA6 b6 HC hA0
       go_wp2_with fail
       refine (Qbh _ _ _).mono ?_
       rintro e w7 ⟨rfl, b7⟩
       obtain ⟨w8', hS8', hA⟩ := Qfh (Qa HH).own (Qa HRB) (Qmc (Qa HRB) (Qa HH).own hA8 b7) 7 (m : Int)
       clear hA8 b7
       have HSC := hide (show scan 0 s.data.toList = .bad 7 m by rw [(Qa HH).sc]; exact Qhg _ _ _ _ (Qcs (by rw [Qan s m hlt]; simp) (Qa HG) ht))
       have hL := Qcv (w := w8') hA.ff
       have hL2 := Qcv (w := w8'.drew) hA.ff
       obtain ⟨w9, hS9, z0, z1, bw, _⟩ := last (wr := w8'.drew) hA.bel.drew hA.fr 7 (m : Int)
       clear hA ht
       go_wp2_with fail
       go_region
       all_goals
        go_wp2_with fail
        refine bodyPost_ret (v := .tuple #[.slice none 0 0, .agg #[.int .i64 7, .int .i64 (m : Int)]]) (by simp [results, Try.results15, go_sem, z0, z1]) rfl ?_
        rw [Qa H, Qa HSC]
        exact ⟨_, rfl, World.ownsRow_nil _ _ _ _, bw⟩
      have ht : tokAt (s.data.toList.drop m) = .tok 4 d.data.toList 0 n := by rw [htk]; unfold sgRes; rw [hn, if_neg h0, hdl]
      have hdn : d.toList.isEmpty = false := by
       have : 0 < d.size := by omega
       rw [Lib.toList_data, Qfl this]; rfl
      obtain ⟨q, hq⟩ : ∃ q : Int, (d.size : Int) = q := ⟨_, rfl⟩
      have HQ := hide (show q = (n : Int) by omega)
      have hq1 : 0 < q := by omega
      have hq2 : (m : Int) + q ≤ 65536 := by omega
      clear hd hdl hds htk hn hnm hA6 b6 HC hA0
      have hL := Qcv (w := w8) hA.ff
      have hT := Qhw (w := w8) hA.ft
      have HA := hide hA
      have hz8 := hA.sz
      have hb8 := hA.bel.size
      have HT := hide ht
      clear hA ht
      go_wp2_with (at_builtin; refine wpList_append_own _ rfl _ _ 50 rfl (w.heap.size + 1) 54 i0 (.agg #[.int .i64 0, .string ⟨#[]⟩, .int .i64 0, .int .i64 0]) 4 40 Try.underlying50 (Qa HI).1 (Qa HI).2.1 (Qa HI).2.2.1 (Qa HI).2.2.2 rfl (by decide) _ _ _ rfl ((Qa HA).own.alloc _) ⟨_, 0, none⟩ 1 1 [.int .i64 4, .string d, .int .i64 0, .int .i64 (m : Int)] rfl rfl (Qfe _ _ _ _ _) (Qhx _ _ _ _) (by unfold maxLen; omega) (by omega) (by simp; omega) ?_; intro v' w9 hown' hgrow _)
      have HR := hide (show RkRel s w v' (.int .i64 ((m + n : Nat) : Int)) w9 from ⟨_, _, rfl, hide (Qhv (tx := d.data.toList) (Qa HH) (by rw [show (⟨d.data.toList.toArray⟩ : ByteArray) = d from (Qdj rfl).symm]; exact Qa HA) (Qa HG) (Qa HT) (by rw [show (⟨d.data.toList.toArray⟩ : ByteArray) = d from (Qdj rfl).symm]; exact hown') (by rw [show (⟨d.data.toList.toArray⟩ : ByteArray) = d from (Qdj rfl).symm]; exact hgrow))⟩)
      clear hown' hgrow
      go_roundw
      case rel => rw [show (m : Int) + q = ((m + n : Nat) : Int) by rw [Qa HQ]; omega]; exact Qa HR
      case measure => simp [intOf]; omega
 have HSC := hide (show scan 0 s.data.toList = .ok toks by rw [(Qa HH).sc, Qbt s m (by omega), Qci]; simp [Out.app])
 have HO := hide (Qa HH).own
 obtain ⟨w9, hS9, z0, z1, bw, HO2⟩ := last (Qa HH).bel (Qa HH).rb 0 0
 have HO3 := hide (out_own (Qa HO) HO2)
 clear HH HO HO2
 go_wp2_with fail
 refine bodyPost_ret (v := .tuple #[u4, .agg #[.int .i64 0, .int .i64 0]]) (by simp [results, Try.results15, go_sem, z0, z1]) rfl ?_
 rw [Qa H, Qa HSC]
 exact ⟨u4, rfl, Qa HO3, bw⟩
end
section
open Go.RowKit Go.Maps
theorem Qju (s : ByteArray) (hl : 65536 < s.size) (hs : s.size ≤ 281474976710656) (w : World) :
  Calls Try.prog 15 #[.string s] w fun e w' => TokAns (lexP s.data.toList) w w' e := by
 have H := hide (show lexP s.data.toList = .bad 2 0 by unfold lexP; rw [← Qct, if_pos hl])
 go_enter Try.func15, Try.ntmps15
 go_wp2_with fail
 refine (Qbh _ _ _).mono ?_
 rintro e w2 ⟨rfl, b2⟩
 have b2' : Below (w.heap.size + 1) (w.alloc fltZ) w2 := by simpa using b2
 have hb : w2.heap[w.heap.size]? = some fltZ := by rw [b2'.block _ (by omega)]; exact heap_alloc_new w _
 have y0 : w2.cell? ⟨w.heap.size, 0, none⟩ = some (.int .i64 0) := by rw [Lib.cell_of_heap hb]; rfl
 have y1 : w2.cell? ⟨w.heap.size, 1, none⟩ = some (.int .i64 0) := by rw [Lib.cell_of_heap hb]; rfl
 have fy : ∀ o, w2.frozen? ⟨w.heap.size, o, none⟩ = false := fun o => Lib.frozen_of_heap hb o
 have bw : Below w.heap.size w w2 := ((Below.refl w.heap.size w).alloc (Nat.le_refl _) _).trans (b2'.mono (by omega))
 clear b2 b2' hb
 go_wp2_with fail
 refine bodyPost_ret (v := .tuple #[.slice none 0 0, .agg #[.int .i64 2, .int .i64 0]]) (by simp [results, Try.results15, go_sem, y0, y1]) rfl ?_
 rw [Qa H]
 exact ⟨_, rfl, World.ownsRow_nil _ _ _ _, (bw.setCell (p := ⟨w.heap.size, 0, none⟩) (Nat.le_refl _) _).setCell (p := ⟨w.heap.size, 1, none⟩) (Nat.le_refl _) _⟩
theorem Qfy (s : ByteArray) (hs : s.size ≤ 281474976710656) (w : World) :
  Calls Try.prog 15 #[.string s] w fun e w' => TokAns (lexP s.data.toList) w w' e := by
 by_cases h : 65536 < s.size
 · exact Qju s h hs w
 · exact Qjt s (by omega) w
theorem SlAt.take {w : World} {a : Option Addr} {c n : Nat} {l : List Tok} (h : SlAt w (.slice a l.length c) l) (hn : n ≤ l.length) : SlAt w (.slice a n c) (l.take n) := by
 obtain ⟨ao, cap, e, h1, h2, h3⟩ := h
 cases e
 have hl : (l.take n).length = n := by rw [List.length_take]; omega
 refine ⟨a, c, by rw [hl], by rw [hl]; omega, h2, ?_⟩
 rcases h3 with h3 | ⟨g, hg, hr⟩
 · exact .inl (by rw [h3]; simp)
 refine .inr ⟨g, hg, hr.lt, by rw [hl]; omega, hr.cm, fun i t ht => hr.cells i t ?_⟩
 rw [List.getElem?_take] at ht
 split at ht
 · exact ht
 · cases ht
theorem cs4 {w : World} {b o : Nat} {c0 c1 c2 c3 : Value} (h : ∀ q c, ([c0, c1, c2, c3] : List Value)[q]? = some c → w.cell? ⟨b, o + q, none⟩ = some c) : w.cell? ⟨b, o, none⟩ = some c0 ∧ w.cell? ⟨b, o + 1, none⟩ = some c1 ∧ w.cell? ⟨b, o + 2, none⟩ = some c2 ∧ w.cell? ⟨b, o + 3, none⟩ = some c3 := ⟨h 0 _ rfl, h 1 _ rfl, h 2 _ rfl, h 3 _ rfl⟩
theorem cs5 {w : World} {b o : Nat} {c0 c1 c2 c3 c4 : Value} (h : ∀ q c, ([c0, c1, c2, c3, c4] : List Value)[q]? = some c → w.cell? ⟨b, o + q, none⟩ = some c) : w.cell? ⟨b, o, none⟩ = some c0 ∧ w.cell? ⟨b, o + 1, none⟩ = some c1 ∧ w.cell? ⟨b, o + 2, none⟩ = some c2 ∧ w.cell? ⟨b, o + 3, none⟩ = some c3 ∧ w.cell? ⟨b, o + 4, none⟩ = some c4 := ⟨h 0 _ rfl, h 1 _ rfl, h 2 _ rfl, h 3 _ rfl, h 4 _ rfl⟩
end
section
open Go.RowKit
inductive MT where
 | nil
 | take (k : Nat) (r : MT)
 | one (k : Nat) (r : MT)
 | two (k n : Nat) (a b : MT)
 | three (k n m : Nat) (a b c : MT)
def MT.len : MT → Nat
 | .nil => 0
 | .take _ r => r.len + 1
 | .one _ r => r.len + 1
 | .two _ _ a _ => a.len + 1
 | .three _ _ _ a _ _ => a.len + 1
section
variable {P : Program} {ops : Array Oper} {md : Region.Mode} {Q : Exit → Act → World → Prop} {C : World → Prop}
def MT.ok (md : Region.Mode) (ops : Array Oper) : MT → Array Bool → Bool
 | .nil, listed => (Region.ready md ops listed).isEmpty
 | .take k r, listed => (Region.ready md ops listed).contains k && Region.free md ops listed k && r.ok md ops (listed.setIfInBounds k true)
 | .one k r, listed => decide (Region.ready md ops listed = [k]) && r.ok md ops (listed.setIfInBounds k true)
 | .two k n a b, listed => decide (Region.ready md ops listed = [k, n]) && decide (b.len = a.len) && a.ok md ops (listed.setIfInBounds k true) && b.ok md ops (listed.setIfInBounds n true)
 | .three k n m a b c, listed => decide (Region.ready md ops listed = [k, n, m]) && decide (b.len = a.len) && decide (c.len = a.len) && a.ok md ops (listed.setIfInBounds k true) && b.ok md ops (listed.setIfInBounds n true) && c.ok md ops (listed.setIfInBounds m true)
def wpTr (P : Program) (ops : Array Oper) (C : World → Prop) (Q : Exit → Act → World → Prop) : MT → Act → World → Prop
 | .nil, a, w => C w ∧ Q .normal a w
 | .take k r, a, w => ∃ o v, ops[k]? = some o ∧ (∀ w, C w → YieldsAt P ops w o v a) ∧ wpTr P ops C Q r (a.put o.dst v) w
 | .one k r, a, w => C w ∧ wpOp P ops Q k (fun a' w' => wpTr P ops C Q r a' w') a w
 | .two k n x y, a, w => C w ∧ wpOp P ops Q k (fun a' w' => wpTr P ops C Q x a' w') a w ∧ wpOp P ops Q n (fun a' w' => wpTr P ops C Q y a' w') a w
 | .three k n m x y z, a, w => C w ∧ wpOp P ops Q k (fun a' w' => wpTr P ops C Q x a' w') a w ∧ wpOp P ops Q n (fun a' w' => wpTr P ops C Q y a' w') a w ∧ wpOp P ops Q m (fun a' w' => wpTr P ops C Q z a' w') a w
theorem Qc (hsel : Region.noSelect ops = true) (hL : ¬ LetsOut Q) (hQ : ∀ c (a : Act) d v w, Q (.panic c) (a.put d v) w → Q (.panic c) a w) : ∀ (l : MT) (listed : Array Bool) (a : Act) (w : World), l.ok md ops listed = true → wpTr P ops C Q l a w → wpAnyC P md ops C Q l.len listed a w
 | .nil, listed, a, w, hB, h => ⟨h.1, by simpa [MT.ok] using hB, h.2⟩
 | .take k r, listed, a, w, hB, h => by
  simp only [MT.ok, Bool.and_eq_true] at hB
  obtain ⟨⟨hr, hf⟩, hB'⟩ := hB
  obtain ⟨o, v, ho, hy, h'⟩ := h
  exact Qbi ho (Region.noSelect_spec hsel) hL hQ r.len listed a w (Region.free_spec ho hf) (by simpa using hr) hy (Qc hsel hL hQ r _ _ _ hB' h')
 | .one k r, listed, a, w, hB, h => by
  simp only [MT.ok, Bool.and_eq_true, decide_eq_true_eq] at hB
  refine ⟨h.1, fun e => (by rw [hB.1] at e; cases e), fun i hi => ?_⟩
  rw [hB.1] at hi
  have e : i = k := by simpa using hi
  subst e
  exact wpOp_mono (fun a' w' h' => Qc hsel hL hQ r _ a' w' hB.2 h') h.2
 | .two k n x y, listed, a, w, hB, h => by
  simp only [MT.ok, Bool.and_eq_true, decide_eq_true_eq] at hB
  obtain ⟨⟨⟨hr, hl⟩, h1⟩, h2⟩ := hB
  refine ⟨h.1, fun e => (by rw [hr] at e; cases e), fun i hi => ?_⟩
  rw [hr] at hi
  simp only [List.mem_cons, List.not_mem_nil, or_false] at hi
  rcases hi with rfl | rfl
  · exact wpOp_mono (fun a' w' h' => Qc hsel hL hQ x _ a' w' h1 h') h.2.1
  · exact wpOp_mono (fun a' w' h' => by have := Qc hsel hL hQ y _ a' w' h2 h'; rw [hl] at this; exact this) h.2.2
 | .three k n m x y z, listed, a, w, hB, h => by
  simp only [MT.ok, Bool.and_eq_true, decide_eq_true_eq] at hB
  obtain ⟨⟨⟨⟨⟨hr, hl⟩, hl2⟩, h1⟩, h2⟩, h3⟩ := hB
  refine ⟨h.1, fun e => (by rw [hr] at e; cases e), fun i hi => ?_⟩
  rw [hr] at hi
  simp only [List.mem_cons, List.not_mem_nil, or_false] at hi
  rcases hi with rfl | rfl | rfl
  · exact wpOp_mono (fun a' w' h' => Qc hsel hL hQ x _ a' w' h1 h') h.2.1
  · exact wpOp_mono (fun a' w' h' => by have := Qc hsel hL hQ y _ a' w' h2 h'; rw [hl] at this; exact this) h.2.2.1
  · exact wpOp_mono (fun a' w' h' => by have := Qc hsel hL hQ z _ a' w' h3 h'; rw [hl2] at this; exact this) h.2.2.2
end
section
variable {P : Program} {ops : Array Oper} {Q : Exit → Act → World → Prop} {C : World → Prop} {r : MT} {a : Act} {w : World} {k : Nat} {o : Oper}
theorem Qag {v : Value} (ho : ops[k]? = some o) (hw : Region.wanted o (yielded ops a.tmps) = true) (hy : ∀ w', C w' → (execOp a.eval o).run P w' = .ok (.value v) w')
  (h : wpTr P ops C Q r (a.put o.dst v) w) : wpTr P ops C Q (.take k r) a w := ⟨o, v, ho, fun w' hc => .inl ⟨hw, .inl (hy w' hc)⟩, h⟩
abbrev StepTr (P : Program) (ops : Array Oper) (C : World → Prop) (Q : Exit → Act → World → Prop) (r : MT) (o : Oper) (a : Act) (w : World) : Prop := ∀ K' : Act → World → Prop, (∀ a w, wpTr P ops C Q r a w → K' a w) → if Region.wanted o (yielded ops a.tmps) = true then Oper.wp P o a w K' Q else K' (a.put o.dst undef) w
theorem Qat (ho : ops[k]? = some o) (hC : C w) (h : StepTr P ops C Q r o a w) : wpTr P ops C Q (.one k r) a w := ⟨hC, wpOp_step ho h⟩
theorem Qdt {n : Nat} {o2 : Oper} {y : MT} (ho : ops[k]? = some o) (ho2 : ops[n]? = some o2) (hC : C w) (h : StepTr P ops C Q r o a w) (h2 : StepTr P ops C Q y o2 a w) : wpTr P ops C Q (.two k n r y) a w := ⟨hC, wpOp_step ho h, wpOp_step ho2 h2⟩
theorem Qbl (hC : C w) (h : Q .normal a w) : wpTr P ops C Q .nil a w := ⟨hC, h⟩
theorem Qcz {id : Nat} {tr : MT} (C : World → Prop) (hm : P.follows .mixedOrders = true) (hsel : Region.noSelect ops = true) (hlen : tr.len = ops.size) (hB : tr.ok .any ops (Array.replicate ops.size false) = true)
  (h : ∀ PP : Act → World → Prop, (∀ a' w', Q .normal a' w' → PP a' w') → wpTr P ops C (onlyN PP) tr a w.drew) : (Code.region id ops true).wp P Q a w := by
 have hL : ¬ LetsOut (onlyN (Q .normal)) := by rintro ⟨_, _, h⟩; exact h
 have h1 := Qdr _ _ _ _ (Qc (md := .any) hsel hL (fun _ _ _ _ _ h => h) tr _ a _ hB (h (Q .normal) (fun _ _ h => h)))
 rw [hlen] at h1
 refine wp_mono (Q := onlyN (Q .normal)) (wp_region_any hm h1) ?_
 intro e a w h
 cases e
 case normal => exact h
 all_goals exact h.elim
end
end
section
open Go.RowKit Go.Maps
theorem Qcb {P : Program} {ops : Array Oper} {o : Oper} {a : Act} {w : World} {K : Act → World → Prop} {Q : Exit → Act → World → Prop}
  (hg : o.guard = none) (ty : TypeId) (x y : Operand) (ho : o.op = .store ty x y) (b : Nat) (t : TypeId) (old cells : Array Value) (hx : a.eval x = .pointer (some ⟨b, 0, none⟩)) (hy : a.eval y = .agg cells)
  (hb : w.heap[b]? = some (.cells old t (0, 0))) (hi : (P.info? ty).map (·.size) = some cells.size) (hs : old.size = cells.size) (h1 : cells.all (·.oneCell') = true) (hK : K (a.put o.dst undef) (w.setRow b cells)) :
  if Region.wanted o (yielded ops a.tmps) = true then Oper.wp P o a w K Q else K (a.put o.dst undef) w := by
 have hw : Region.wanted o (yielded ops a.tmps) = true := by simp [Region.wanted, hg]
 rw [if_pos hw]
 unfold Oper.wp execOp
 simp only [ho, hx, hy, Instr.storeAt, Instr.sureAddr, Sem.run_bind, Sem.run_pure, Result.andThen_ok, run_storeVar_row w b t ty old cells hb hi hs h1]
 exact hK
structure Bxd (X V2 : World) (p1 p2 : Nat) (c0 c1 c2 c3 c4 f0 f1 : Value) : Prop where
 b1 : V2.heap[p1]? = some (.cells #[c0, c1, c2, c3, c4] 28 (0, 0))
 b2 : V2.heap[p2]? = some (.cells #[f0, f1] 31 (0, 0))
 bel : Below X.heap.size X V2
theorem PgS.move {S S' : Nat → Prop} {w w' : World} {cs : List Value} {p : Pg} (h : PgS S w cs p) (hs : w.heap.size ≤ w'.heap.size) (hS : ∀ b, b < w.heap.size → S b → w'.heap[b]? = w.heap[b]?) (hS' : ∀ b, S b → S' b) : PgS S' w' cs p := by
 have h1 := Qar.mono S (fun b => S b ∧ b < w.heap.size) w cs p h (fun b hl hb => ⟨hb, hl⟩)
 have h2 := Qar.same _ w w' cs p h1 hs (fun b hb _ => hS b hb.2 hb.1)
 exact Qar.mono _ S' w' cs p h2 (fun b _ hb => hS' b hb.1)
end
section
open Go.RowKit Go.Maps
theorem cl6 {w : World} {b : Nat} {T : TypeId} {v0 v1 v2 v3 v4 v5 : Value} (h : w.heap[b]? = some (.cells #[v0, v1, v2, v3, v4, v5] T (0, 0))) :
  w.cell? ⟨b, 0, none⟩ = some v0 ∧ w.cell? ⟨b, 1, none⟩ = some v1 ∧ w.cell? ⟨b, 2, none⟩ = some v2 ∧ w.cell? ⟨b, 3, none⟩ = some v3 ∧ w.cell? ⟨b, 4, none⟩ = some v4 ∧ w.cell? ⟨b, 5, none⟩ = some v5 ∧ ∀ o, w.frozen? ⟨b, o, none⟩ = false :=
 ⟨(Qaf h 0).trans rfl, (Qaf h 1).trans rfl, (Qaf h 2).trans rfl, (Qaf h 3).trans rfl, (Qaf h 4).trans rfl, (Qaf h 5).trans rfl, fun o => by simp [World.frozen?, h]⟩
structure Rr (rb g cap : Nat) (l : List Tok) (w : World) (a d i : Nat) (y f : Int) : Prop where
 box : w.heap[rb]? = some (.cells #[.slice (some ⟨g, 0, none⟩) l.length cap, .int .i64 (a : Int), .int .i64 (d : Int), .int .i64 (i : Int), .int .i64 y, .int .i64 f] 56 (0, 0))
 row : RowAt w g cap l
 ne : g ≠ rb
 lt : a < l.length
 few : l.length ≤ 65537
 at_ : ∀ t ∈ l, t.at_ ≤ 65536
 last : ∀ t, l[l.length - 1]? = some t → t.kind = 0
 z : y = 0 → f = 0
 dd : d ≤ 64
 ii : i ≤ 65537
 tx : ∀ t ∈ l, t.text.length ≤ 65536
theorem Rr.later {rb g cap a d i : Nat} {l : List Tok} {w w' : World} {y f : Int} (h : Rr rb g cap l w a d i y f) (b : Below w.heap.size w w') : Rr rb g cap l w' a d i y f :=
 ⟨(b.block _ (Qab h.box)).trans h.box, h.row.later b, h.ne, h.lt, h.few, h.at_, h.last, h.z, h.dd, h.ii, h.tx⟩
theorem RowAt.keep {w w' : World} {g cap : Nat} {l : List Tok} (h : RowAt w g cap l) (hs : w.heap.size ≤ w'.heap.size) (hb : w'.heap[g]? = w.heap[g]?) : RowAt w' g cap l :=
 ⟨Nat.lt_of_lt_of_le h.lt hs, h.le, h.cm, fun i t ht => by
  have := h.cells i t ht
  have e : ∀ o, w'.cell? ⟨g, o, none⟩ = w.cell? ⟨g, o, none⟩ := fun o => by simp [World.cell?, hb]
  rw [e, e, e, e]; exact this⟩
theorem Rr.tok {rb g cap a d i : Nat} {l : List Tok} {w : World} {y f : Int} (h : Rr rb g cap l w a d i y f) : ∃ t, l[a]? = some t := ⟨_, List.getElem?_eq_getElem h.lt⟩
abbrev tkA (t : Tok) : Value := .agg #[.int .i64 t.kind, str t.text, .int .i64 t.num, .int .i64 (t.at_ : Int)]

theorem Qao {rb g cap a d i : Nat} {l : List Tok} {w : World} {y f : Int} (h : Rr rb g cap l w a d i y f) :
  Calls Try.prog 19 #[.pointer (some ⟨rb, 0, none⟩)] w fun en w' => en = .returned (.bool (decide (y = 0))) ∧ w' = w := by
 obtain ⟨x_0, x_1, x_2, x_3, x_4, x_5, xf⟩ := cl6 h.box
 have hz := h.z
 clear h
 by_cases hy : y = 0
 ·
  obtain rfl := hz hy
  subst hy
  clear hz
  go_enter Try.func19, Try.ntmps19
  go_wp2_with fail
  go_ret
  exact ⟨rfl, rfl⟩
 have g1 : (y == 0) = false := beq_eq_false_iff_ne.2 hy
 have g2 : decide (y = 0) = false := decide_eq_false hy
 rw [g2]
 clear hz hy g2
 go_enter Try.func19, Try.ntmps19
 go_wp2_with fail
 go_ret
 exact ⟨rfl, rfl⟩

theorem Qak {rb g cap a d i : Nat} {l : List Tok} {w : World} {y f : Int} (h : Rr rb g cap l w a d i y f) {t : Tok} (ht : l[a]? = some t) :
  Calls Try.prog 17 #[.pointer (some ⟨rb, 0, none⟩)] w fun en w' => en = .returned (tkA t) ∧ Below w.heap.size w w' := by
 obtain ⟨W, hW⟩ : ∃ W, W = (w.alloc tokZ).drew := ⟨_, rfl⟩
 have bW : Below w.heap.size w W := by rw [hW]; exact ((Below.refl _ w).alloc (Nat.le_refl _) _).drew
 have nW : W.heap[w.heap.size]? = some tokZ := by rw [hW]; exact heap_alloc_new w _
 have hlt := h.lt
 have hfw := h.few
 have hcl := h.row.le
 have hcm := h.row.cm
 unfold maxLen at hcm
 obtain ⟨n, hn⟩ : ∃ n, l.length = n := ⟨_, rfl⟩
 rw [hn] at hlt hfw hcl
 have HC : Hid (∀ w', Below w.heap.size w w' → w'.heap[rb]? = some (.cells #[.slice (some ⟨g, 0, none⟩) n cap, .int .i64 (a : Int), .int .i64 (d : Int), .int .i64 (i : Int), .int .i64 y, .int .i64 f] 56 (0, 0)) ∧ (∀ q c, ([.int .i64 t.kind, str t.text, .int .i64 t.num, .int .i64 (t.at_ : Int)] : List Value)[q]? = some c → w'.cell? ⟨g, a * 4 + q, none⟩ = some c)) := fun w' bb => by
  have hb := h.later bb
  refine ⟨by have := hb.box; rw [hn] at this; exact this, fun q c hq => ?_⟩
  have hc := hb.row.cells a t ht
  match q, hq with
  | 0, hq => cases hq; exact hc.1
  | 1, hq => cases hq; exact hc.2.1
  | 2, hq => cases hq; exact hc.2.2.1
  | 3, hq => cases hq; exact hc.2.2.2
  | q + 4, hq => simp at hq
 obtain ⟨V, hV⟩ : ∃ V, V = W.setRow w.heap.size #[.int .i64 t.kind, str t.text, .int .i64 t.num, .int .i64 (t.at_ : Int)] := ⟨_, rfl⟩
 have bV : Below w.heap.size w V := by
  rw [hV]
  exact ⟨bW.os, bW.tape, bW.output, by rw [size_setRow]; exact bW.size, fun k hk => by rw [setRow_other _ _ _ _ (by omega)]; exact bW.block k hk⟩
 have nV : V.heap[w.heap.size]? = some (.cells #[.int .i64 t.kind, str t.text, .int .i64 t.num, .int .i64 (t.at_ : Int)] 54 (0, 0)) := by rw [hV]; exact setRow_heap _ _ _ _ _ _ nW
 have HW := hide hW
 have HV := hide hV
 have HB := hide (Ya bW (Ya nW (Ya bV nV)))
 clear hW hV bW nW bV nV h ht hn
 go_enter Try.func17, Try.ntmps17
 go_wp2_with fail
 refine Qav (md := [(0, true), (1, true), (2, true), (3, true), (4, true), (5, true), (6, true), (7, true), (8, true), (9, true), (10, false)]) (fun w' => w'.heap[rb]? = some (.cells #[.slice (some ⟨g, 0, none⟩) n cap, .int .i64 (a : Int), .int .i64 (d : Int), .int .i64 (i : Int), .int .i64 y, .int .i64 f] 56 (0, 0)) ∧ (∀ q c, ([.int .i64 t.kind, str t.text, .int .i64 t.num, .int .i64 (t.at_ : Int)] : List Value)[q]? = some c → w'.cell? ⟨g, a * 4 + q, none⟩ = some c)) mixedO (by kernel_rfl) rfl (by kernel_rfl) (fun PP hPP => ?_)
 rw [← Qa HW]
 iterate 10 refine Qac rfl (by kernel_rfl) (fun w' hw => by obtain ⟨x_0, x_1, x_2, x_3, x_4, x_5, xf⟩ := cl6 hw.1; obtain ⟨y_0, y_1, y_2, y_3⟩ := cs4 hw.2; go_simp <;> rfl) ?_
 refine Qkz (b := { tmps := #[.pointer (some ⟨rb, 0, none⟩), undef, .pointer (some ⟨w.heap.size, 0, none⟩), .pointer (some ⟨rb, 0, none⟩), .pointer (some ⟨rb, 0, none⟩), .pointer (some ⟨rb, 0, none⟩), .slice (some ⟨g, 0, none⟩) n cap, .pointer (some ⟨rb, 0, none⟩), .pointer (some ⟨rb, 0, none⟩), .pointer (some ⟨rb, 1, none⟩), .int .i64 (a : Int), .pointer (some ⟨g, a * 4, none⟩), tkA t], defers := [] }) (by kernel_rfl) ?_
 refine Qal rfl (Qa HC _ (Qa HB).1) (fun K hK => ?_)
 refine Qcb rfl _ _ _ rfl w.heap.size _ _ #[.int .i64 t.kind, str t.text, .int .i64 t.num, .int .i64 (t.at_ : Int)] (by kernel_rfl) (by kernel_rfl) (Qa HB).2.1 (by kernel_rfl) rfl (by simp [Value.oneCell', str]) ?_
 refine hK _ _ ?_
 clear hK K
 rw [← Qa HV]
 refine Qaw (Qa HC _ (Qa HB).2.2.1) (hPP _ _ ?_)
 clear hPP PP
 simp [Act.put]
 obtain ⟨z_0, z_1, z_2, z_3, zf⟩ := cl4 (Qa HB).2.2.2
 go_wp2_with fail
 refine bodyPost_ret (v := tkA t) (by simp [results, Try.results17, go_sem, z_0, z_1, z_2, z_3]) rfl ?_
 exact ⟨rfl, (Qa HB).2.2.1⟩
end
end Go.Proofs.Ytfmbpaoapjmdnaa
