/- Walk of the law on the first wrong token: where one is. -/
import Derived.Test.YtcdobniommnflaaGreatDoorMf40
import Derived.Test.YtcdobniommnflaaGreatDoorMf41
namespace Go.Proofs.YtcdobniommnflaaGreatDoor
open Go.RowKit Go.Maps

theorem wrap_small (i : Nat) (h : i < 65536) : IntKind.i64.wrap ((i : Int) + 2) = (i : Int) + 2 := by
  have e1 : (2 : Int) ^ IntKind.i64.bits = 18446744073709551616 := by decide
  have e2 : (2 : Int) ^ (IntKind.i64.bits - 1) = 9223372036854775808 := by decide
  have e3 : ((i : Int) + 2) % 18446744073709551616 = (i : Int) + 2 := by omega
  unfold IntKind.wrap
  simp only [e1, e2, e3]
  rw [if_neg (by simp; intro _; omega)]
theorem wpMix_skipF {P : Program} {ops : Array Oper} {C : World → Prop} {Q : Exit → Act → World → Prop} {r : List (Nat × Bool)} {a : Act} {w : World} {k : Nat} {o : Oper} (ho : ops[k]? = some o) (hC : C w) (hw : Region.wanted o (yielded ops a.tmps) = false) (h : wpMix P ops C Q r (a.put o.dst undef) w) : wpMix P ops C Q ((k, false) :: r) a w :=
  wpMix_force ho hC (fun K hK => by rw [if_neg (by rw [hw]; decide)]; exact hK _ _ h)
attribute [local go_sem ↓] storeAt_tk loadAt_tk
set_option maxRecDepth 100000 in
set_option maxHeartbeats 8000000 in
theorem first_on (s z : ByteArray) (w : World) (hE : Env w) (hs : s.size ≤ 140737488355328) (hz : z.size ≤ 140737488355328) {a : Int} {r : List Tok} (hq : parseP s.data.toList = .bad 10 a r) (ha : a < (s.size : Int)) :
    Calls Tryz.prog 4 #[.string s, .string z] w fun e w' => e = .returned (.bool true) ∧ Below w.heap.size w w' := by
  have hp := parse_any s hs w hE
  rw [hq] at hp
  have HE := hide hE
  have HQ := hide hq
  clear hE hq
  have hna : ¬ ((s.size : Int) ≤ a) := by omega
  clear ha
  go_enter Tryz.func4, Tryz.ntmps4
  go_wp2_with fail
  refine hp.mono ?_
  clear hp
  rintro e w1 ⟨rfl, b1⟩
  obtain ⟨w3, hw3⟩ : ∃ w3, w3 = (w1.alloc (.cells #[.slice none 0 0, .slice none 0 0, .slice none 0 0, .slice none 0 0, .slice none 0 0] 28)).alloc (.cells #[.int .i64 10, .int .i64 a] 31) := ⟨_, rfl⟩
  have b3 : Below w.heap.size w w3 := by rw [hw3]; exact (b1.alloc b1.size _).alloc (by simp; have := b1.size; omega) _
  have f3 : w3.heap[w1.heap.size + 1]? = some (.cells #[.int .i64 10, .int .i64 a] 31 (0, 0)) := by
    rw [hw3]
    have := heap_alloc_new (w1.alloc (.cells #[.slice none 0 0, .slice none 0 0, .slice none 0 0, .slice none 0 0, .slice none 0 0] 28)) (.cells #[.int .i64 10, .int .i64 a] 31)
    rw [show (w1.alloc (.cells #[.slice none 0 0, .slice none 0 0, .slice none 0 0, .slice none 0 0, .slice none 0 0] 28)).heap.size = w1.heap.size + 1 by simp] at this
    exact this
  have htk := rtokens_all s (by omega) w3
  have HB3 := hide (And.intro b3 f3)
  have HW3 := hide hw3
  clear b1 b3 f3 hw3
  go_wp2_with fail
  rw [← unhide HW3]
  clear HW3
  refine htk.mono ?_
  clear htk
  rintro e w4 ⟨v, rfl, hown, b4⟩
  obtain ⟨l, hl⟩ : ∃ l, l = (lexP s.data.toList).toks := ⟨_, rfl⟩
  rw [← hl] at hown
  obtain ⟨b3, f3⟩ := unhide HB3
  obtain ⟨w5, hw5⟩ : ∃ w5, w5 = w4.alloc (.cells #[.int .i64 (lexP s.data.toList).why, .int .i64 (lexP s.data.toList).fa] 31) := ⟨_, rfl⟩
  have b5 : Below w.heap.size w w5 := by rw [hw5]; exact (b3.trans (b4.mono b3.size)).alloc (by have := b3.size; have := b4.size; omega) _
  have hsl : SlAt w5 v l := (slAt_of hown).later (by rw [hw5]; exact (Below.refl _ w4).alloc (Nat.le_refl _) _)
  have f5 : w5.heap[w1.heap.size + 1]? = some (.cells #[.int .i64 10, .int .i64 a] 31 (0, 0)) := by
    rw [hw5, Below.heap_alloc _ _ _ (by have := lt_hp f3; have := b4.size; omega), b4.block _ (lt_hp f3)]; exact f3
  have hE5 := (unhide HE).later b5
  have hll : l = [] ∨ lexP s.data.toList = .ok l ∧ s.size ≤ 65536 ∧ l.length ≤ 65536 ∧ Ris 0 s.size l := by
    have hr := lex_ris s.data.toList
    cases ho : lexP s.data.toList with
    | bad w a => exact .inl (by rw [hl, ho]; rfl)
    | ok l1 =>
      obtain rfl : l = l1 := by rw [hl, ho]; rfl
      rw [ho] at hr
      have h1 := lex_ok ho
      rw [← size_len] at h1 hr
      exact .inr ⟨rfl, h1.1, by omega, hr⟩
  generalize (lexP s.data.toList).why = sw at hw5 ⊢
  generalize (lexP s.data.toList).fa = sf at hw5 ⊢
  have HW5 := hide hw5
  obtain ⟨va, vc, rfl, hvc, hvm, hrow⟩ := id hsl
  unfold maxLen at hvm
  have HK := hide (And.intro b5 (And.intro f5 (And.intro hE5 (And.intro hsl hrow))))
  have HLL := hide hll
  clear hown b4 b3 f3 hl hw5 b5 hsl f5 hE5 hll hrow HB3 HE
  obtain ⟨n, hn⟩ : ∃ n, l.length = n := ⟨_, rfl⟩
  rw [hn] at hvc ⊢
  have HN := hide hn
  clear hn
  go_wp2_with fail
  rw [← unhide HW5]
  clear HW5
  obtain ⟨fb, hfb⟩ : ∃ fb, w1.heap.size + 1 = fb := ⟨_, rfl⟩
  rw [hfb] at HK
  rw [hfb]
  obtain ⟨gb4, hgb4⟩ : ∃ gb4, w4.heap.size = gb4 := ⟨_, rfl⟩
  rw [hgb4]
  clear hfb hgb4
  go_loopw [39] (fun i wr => ∃ j : Nat, i = .int .i64 (j : Int) ∧ j ≤ n ∧ Hid (Below w5.heap.size w5 wr)) (fun i _ => n - (intOf i).toNat)
  case atStart => exact ⟨0, rfl, Nat.zero_le _, hide (Below.refl _ _)⟩
  case round =>
    obtain ⟨i, rfl, hj, HB⟩ := hrel
    obtain ⟨b5, f5, hE5, hsl, hrow⟩ := unhide HK
    have bw := unhide HB
    have fr := (bw.block _ (lt_hp f5)).trans f5
    obtain ⟨f0, f1, ff⟩ := cl2 fr
    by_cases hlt : i < n
    · obtain ⟨t, ht⟩ : ∃ t, l[i]? = some t := ⟨l[i]'(by rw [unhide HN]; exact hlt), List.getElem?_eq_getElem _⟩
      obtain ⟨g, rfl, hr5⟩ : ∃ g, va = some ⟨g, 0, none⟩ ∧ RowAt w5 g vc l := by
        rcases hrow with h | h
        · rw [h] at ht; simp at ht
        · exact h
      have hr := hr5.later bw
      obtain ⟨hok, hs6, hl6, hris⟩ := (unhide HLL).resolve_left (fun h => by rw [h] at ht; simp at ht)
      rw [unhide HN] at hl6
      have L1 := tk_row hr ht
      have N1 := tk_new wr t.kind t.num (t.at_ : Int) ⟨t.text.toArray⟩
      obtain ⟨w6, hw6⟩ : ∃ w6, w6 = wr.alloc (.cells #[.int .i64 t.kind, str t.text, .int .i64 t.num, .int .i64 (t.at_ : Int)] 42) := ⟨_, rfl⟩
      have b6 : Below w5.heap.size w5 w6 := by rw [hw6]; exact bw.alloc bw.size _
      have m6 : w6.heap[wr.heap.size]? = some (.cells #[.int .i64 t.kind, str t.text, .int .i64 t.num, .int .i64 (t.at_ : Int)] 42 (0, 0)) := by rw [hw6]; exact heap_alloc_new wr _
      have fr6 := (b6.block _ (lt_hp f5)).trans f5
      obtain ⟨t0, t1, t2, t3, tf⟩ := cl4 m6
      obtain ⟨e0, e1, ef⟩ := cl2 fr6
      have N1' : (tkStore (.pointer (some ⟨wr.heap.size, 0, none⟩)) (.agg #[.int .i64 t.kind, str t.text, .int .i64 t.num, .int .i64 (t.at_ : Int)])).run Tryz.prog (wr.alloc (.cells #[.int .i64 0, .string ⟨#[]⟩, .int .i64 0, .int .i64 0] 42)) = .ok () w6 := by rw [hw6]; exact N1
      have HB6 := hide (And.intro b6 (And.intro hr5 (And.intro ht (And.intro hok hris))))
      clear N1 hw6 b6 m6 fr6 fr bw hr hr5 ht hok hris b5 f5 hE5 hsl hrow HB
      by_cases hat : (t.at_ : Int) = a
      · have g1 : ((t.at_ : Int) != a) = false := by simpa using hat
        by_cases hi2 : n ≤ i + 2
        · have g2 : (n : Int) ≤ (i : Int) + 2 := by omega
          clear hat
          go_wp2_with fail
          go_roundw
          case rel => exact ⟨i + 1, by go_num, by omega, hide (unhide HB6).1⟩
          case measure => simp [intOf]; omega
        · have g2 : ¬ ((n : Int) ≤ (i : Int) + 2) := by omega
          obtain ⟨b6, hr5, ht, hok, hris⟩ := unhide HB6
          obtain ⟨t2', ht2⟩ : ∃ t2', l[i + 2]? = some t2' := ⟨l[i + 2]'(by rw [unhide HN]; omega), List.getElem?_eq_getElem _⟩
          have hk : t2'.at_ ≤ s.size := by have := hris.at t2' (List.mem_of_getElem? ht2); omega
          have x3 := ((hr5.later b6).cells (i + 2) t2' ht2).2.2.2
          have hrun1 := run_head s t2'.at_ hk
          obtain ⟨u0, hu0⟩ : ∃ u0, u0 = s.extract 0 t2'.at_ := ⟨_, rfl⟩
          rw [← hu0] at hrun1
          have hsz0 : u0.size ≤ 65536 := by rw [hu0, ByteArray.size_extract]; omega
          have hcat1 : ∀ w : World, (Op.stringOp .add u0 ⟨#[32]⟩).run Tryz.prog w = .ok (.string (u0 ++ ⟨#[32]⟩)) w := fun w => run_string_add_sum w u0 _ (by have : (⟨#[32]⟩ : ByteArray).size = 1 := rfl; omega)
          obtain ⟨u1, hu1⟩ : ∃ u1, u1 = u0 ++ (⟨#[32]⟩ : ByteArray) := ⟨_, rfl⟩
          rw [← hu1] at hcat1
          have hsz1 : u1.size ≤ 65537 := by rw [hu1, ByteArray.size_append]; have : (⟨#[32]⟩ : ByteArray).size = 1 := rfl; omega
          have hcat2 : ∀ w : World, (Op.stringOp .add u1 z).run Tryz.prog w = .ok (.string (u1 ++ z)) w := fun w => run_string_add_sum w u1 z (by omega)
          obtain ⟨u, hu⟩ : ∃ u, u = u1 ++ z := ⟨_, rfl⟩
          rw [← hu] at hcat2
          have hszu : u.size ≤ 281474976710656 := by rw [hu, ByteArray.size_append]; omega
          have htk := rtokens_all u hszu w6
          have HI := hide (And.intro hat ht2)
          have HAT := hide hat
          clear b6 hr5 ht hok hris ht2 hk hu0 hsz0 hu1 hsz1 hu hat
          go_wp2_with fail
          refine htk.mono ?_
          clear htk hrun1 hcat1 hcat2 x3 t0 t1 t2 t3 tf
          rintro e w7 ⟨vm, rfl, hown, b7⟩
          obtain ⟨b6, hr5, ht, hok, hris⟩ := unhide HB6
          have b57 : Below w5.heap.size w5 w7 := b6.trans (b7.mono b6.size)
          obtain ⟨ma, mc, ev, hmc, hmm, _⟩ := slAt_of hown
          unfold maxLen at hmm
          subst ev
          cases hou : lexP u.data.toList with
          | bad why' fa' =>
            rw [hou] at hown hmc
            have hz0 : (why' == 0) = false := by
              have := lex_ris u.data.toList
              rw [hou] at this
              simpa using this.1
            clear hou
            obtain ⟨w8, hw8⟩ : ∃ w8, w8 = w7.alloc (.cells #[.int .i64 why', .int .i64 (fa' : Int)] 31) := ⟨_, rfl⟩
            have b78 : Below w7.heap.size w7 w8 := by rw [hw8]; exact (Below.refl _ w7).alloc (Nat.le_refl _) _
            have b58 : Below w5.heap.size w5 w8 := b57.trans (b78.mono b57.size)
            have g8 : w8.heap[w7.heap.size]? = some (.cells #[.int .i64 why', .int .i64 (fa' : Int)] 31 (0, 0)) := by rw [hw8]; exact heap_alloc_new w7 _
            obtain ⟨b5, f5, hE5, hsl, hrow⟩ := unhide HK
            have HEV := hide (hE5.later b58.drew)
            have HBW := hide (b5.trans ((b58.drew).mono b5.size))
            have HGB := hide g8
            have HW8 := hide hw8
            clear f5 hE5
            clear hw8 g8 b5 hsl hrow hown b7 b78 b57 b58
            clear b6 hr5 ht hok hris
            simp only [Out.why, Out.fa]
            go_wp2_with fail
            rw [← unhide HW8]
            clear HW8
            refine region_mixN (md := [(0, true), (1, true), (2, true), (3, true), (4, true), (5, true), (6, true), (7, true), (8, true), (9, true), (10, true), (11, true), (12, true), (13, true), (14, true), (15, true), (16, true), (17, true), (18, true), (19, false), (20, true), (21, true)]) (fun w' => w'.heap[w7.heap.size]? = some (.cells #[.int .i64 why', .int .i64 (fa' : Int)] 31 (0, 0))) mixedO (by kernel_rfl) rfl (by kernel_rfl) (fun PP hPP => ?_)
            refine wpMix_take (v := ?_) rfl (by kernel_rfl) (fun w' hw => ?_) ?_
            rotate_left
            · (obtain ⟨u0, u1, uf⟩ := cl2 hw; go_simp; try with_reducible rfl)
            refine wpMix_take (v := ?_) rfl (by kernel_rfl) (fun w' hw => ?_) ?_
            rotate_left
            · (go_simp; try with_reducible rfl)
            refine wpMix_take (v := ?_) rfl (by kernel_rfl) (fun w' hw => ?_) ?_
            rotate_left
            · (go_simp; try with_reducible rfl)
            refine wpMix_take (v := ?_) rfl (by kernel_rfl) (fun w' hw => ?_) ?_
            rotate_left
            · (go_simp; try with_reducible rfl)
            refine wpMix_pass rfl (by kernel_rfl) ?_
            refine wpMix_pass rfl (by kernel_rfl) ?_
            refine wpMix_pass rfl (by kernel_rfl) ?_
            refine wpMix_pass rfl (by kernel_rfl) ?_
            refine wpMix_pass rfl (by kernel_rfl) ?_
            refine wpMix_take (v := ?_) rfl (by kernel_rfl) (fun w' hw => ?_) ?_
            rotate_left
            · (go_simp; try with_reducible rfl)
            refine wpMix_take (v := ?_) rfl (by kernel_rfl) (fun w' hw => ?_) ?_
            rotate_left
            · (go_simp; try with_reducible rfl)
            refine wpMix_pass rfl (by kernel_rfl) ?_
            refine wpMix_pass rfl (by kernel_rfl) ?_
            refine wpMix_pass rfl (by kernel_rfl) ?_
            refine wpMix_pass rfl (by kernel_rfl) ?_
            refine wpMix_pass rfl (by kernel_rfl) ?_
            refine wpMix_pass rfl (by kernel_rfl) ?_
            refine wpMix_pass rfl (by kernel_rfl) ?_
            refine wpMix_pass rfl (by kernel_rfl) ?_
            refine wpMix_skipF rfl (unhide HGB) (by kernel_rfl) ?_
            refine wpMix_pass rfl (by kernel_rfl) ?_
            refine wpMix_take (v := ?_) rfl (by kernel_rfl) (fun w' hw => ?_) ?_
            rotate_left
            · (go_simp; try with_reducible rfl)
            refine wpMix_nil (unhide HGB) (hPP _ _ ?_)
            clear hPP PP
            simp [Act.put, Array.setIfInBounds]
            have hal := alive9_any w8.drew (unhide HEV)
            go_wp2_with fail
            refine hal.mono ?_
            clear hal
            rintro en w9 ⟨rfl, b9⟩
            have B9 := hide b9
            clear b9
            go_wp2_with fail
            go_ret
            exact ⟨rfl, (unhide HBW).trans ((unhide B9).mono (unhide HBW).size)⟩
          | ok m =>
            rw [hou] at hown hmc
            simp only [Out.toks] at hown hmc
            by_cases hml : m.length < i + 2
            · clear hou
              obtain ⟨w8, hw8⟩ : ∃ w8, w8 = w7.alloc (.cells #[.int .i64 0, .int .i64 0] 31) := ⟨_, rfl⟩
              have b78 : Below w7.heap.size w7 w8 := by rw [hw8]; exact (Below.refl _ w7).alloc (Nat.le_refl _) _
              have b58 : Below w5.heap.size w5 w8 := b57.trans (b78.mono b57.size)
              have g8 : w8.heap[w7.heap.size]? = some (.cells #[.int .i64 0, .int .i64 0] 31 (0, 0)) := by rw [hw8]; exact heap_alloc_new w7 _
              obtain ⟨b5, f5, hE5, hsl, hrow⟩ := unhide HK
              have HEV := hide (hE5.later b58.drew)
              have HBW := hide (b5.trans ((b58.drew).mono b5.size))
              have HGB := hide g8
              have HW8 := hide hw8
              clear f5 hE5
              clear hw8 g8 b5 hsl hrow hown b7 b78 b57 b58
              clear b6 hr5 ht hok hris
              have hwr : IntKind.i64.wrap ((i : Int) + 2) = (i : Int) + 2 := wrap_small i (by omega)
              have hlt2 : (m.length : Int) < (i : Int) + 2 := by omega
              simp only [Out.why, Out.fa, Out.toks]
              go_wp2_with fail
              rw [← unhide HW8]
              clear HW8
              refine region_mixN (md := [(0, true), (1, true), (2, true), (3, true), (4, true), (5, true), (6, true), (7, true), (8, true), (9, true), (10, true), (11, true), (12, true), (13, true), (14, true), (15, true), (16, true), (17, true), (18, true), (19, false), (20, true), (21, true)]) (fun w' => w'.heap[w7.heap.size]? = some (.cells #[.int .i64 0, .int .i64 0] 31 (0, 0))) mixedO (by kernel_rfl) rfl (by kernel_rfl) (fun PP hPP => ?_)
              refine wpMix_take (v := ?_) rfl (by kernel_rfl) (fun w' hw => ?_) ?_
              rotate_left
              · (obtain ⟨u0, u1, uf⟩ := cl2 hw; go_simp; try with_reducible rfl)
              refine wpMix_take (v := ?_) rfl (by kernel_rfl) (fun w' hw => ?_) ?_
              rotate_left
              · (go_simp; try with_reducible rfl)
              refine wpMix_take (v := .bool false) rfl (by kernel_rfl) (fun w' hw => ?_) ?_
              · (go_simp; try with_reducible rfl)
              refine wpMix_take (v := .bool false) rfl (by kernel_rfl) (fun w' hw => ?_) ?_
              · (go_simp; try with_reducible rfl)
              refine wpMix_take (v := ?_) rfl (by kernel_rfl) (fun w' hw => ?_) ?_
              rotate_left
              · (go_simp; try with_reducible rfl)
              refine wpMix_take (v := ?_) rfl (by kernel_rfl) (fun w' hw => ?_) ?_
              rotate_left
              · (go_simp; try with_reducible rfl)
              refine wpMix_take (v := ?_) rfl (by kernel_rfl) (fun w' hw => ?_) ?_
              rotate_left
              · (go_simp; try with_reducible rfl)
              refine wpMix_take (v := ?_) rfl (by kernel_rfl) (fun w' hw => ?_) ?_
              rotate_left
              · (go_simp; try with_reducible rfl)
              refine wpMix_take (v := .bool true) rfl (by kernel_rfl) (fun w' hw => ?_) ?_
              · (go_simp; try with_reducible rfl)
              refine wpMix_take (v := .bool true) rfl (by kernel_rfl) (fun w' hw => ?_) ?_
              · (go_simp; try with_reducible rfl)
              refine wpMix_take (v := .bool true) rfl (by kernel_rfl) (fun w' hw => ?_) ?_
              · (go_simp; try with_reducible rfl)
              refine wpMix_pass rfl (by kernel_rfl) ?_
              refine wpMix_pass rfl (by kernel_rfl) ?_
              refine wpMix_pass rfl (by kernel_rfl) ?_
              refine wpMix_pass rfl (by kernel_rfl) ?_
              refine wpMix_pass rfl (by kernel_rfl) ?_
              refine wpMix_pass rfl (by kernel_rfl) ?_
              refine wpMix_pass rfl (by kernel_rfl) ?_
              refine wpMix_pass rfl (by kernel_rfl) ?_
              refine wpMix_skipF rfl (unhide HGB) (by kernel_rfl) ?_
              refine wpMix_pass rfl (by kernel_rfl) ?_
              refine wpMix_take (v := ?_) rfl (by kernel_rfl) (fun w' hw => ?_) ?_
              rotate_left
              · (go_simp; try with_reducible rfl)
              refine wpMix_nil (unhide HGB) (hPP _ _ ?_)
              clear hPP PP
              simp [Act.put, Array.setIfInBounds]
              have hal := alive9_any w8.drew (unhide HEV)
              go_wp2_with fail
              refine hal.mono ?_
              clear hal
              rintro en w9 ⟨rfl, b9⟩
              have B9 := hide b9
              clear b9
              go_wp2_with fail
              go_ret
              exact ⟨rfl, (unhide HBW).trans ((unhide B9).mono (unhide HBW).size)⟩
            · obtain ⟨w8, hw8⟩ : ∃ w8, w8 = w7.alloc (.cells #[.int .i64 0, .int .i64 0] 31) := ⟨_, rfl⟩
              have b78 : Below w7.heap.size w7 w8 := by rw [hw8]; exact (Below.refl _ w7).alloc (Nat.le_refl _) _
              have b58 : Below w5.heap.size w5 w8 := b57.trans (b78.mono b57.size)
              have g8 : w8.heap[w7.heap.size]? = some (.cells #[.int .i64 0, .int .i64 0] 31 (0, 0)) := by rw [hw8]; exact heap_alloc_new w7 _
              obtain ⟨b5, f5, hE5, hsl, hrow⟩ := unhide HK
              have HEV := hide (hE5.later b58.drew)
              have HBW := hide (b5.trans ((b58.drew).mono b5.size))
              have HGB := hide g8
              have HW8 := hide hw8
              have fr8 : w8.heap[fb]? = some (.cells #[.int .i64 10, .int .i64 a] 31 (0, 0)) := (b58.block _ (lt_hp f5)).trans f5
              have hE8 := hE5.later b58.drew
              have hst := same_told _ _ (l.take (i + 2)) (m.take (i + 2)) w8.drew (SlAt.take (n := i + 2) (l := l) (a := some ⟨g, 0, none⟩) (c := vc) (by rw [unhide HN]; exact (unhide HN ▸ hsl).later b58.drew) (by rw [unhide HN]; omega)) (SlAt.take (n := i + 2) (l := m) (a := ma) (c := mc) ((slAt_of hown).later b78.drew) (by omega)) (by rw [List.length_take, List.length_take, unhide HN]; omega)
              have HC8 := hide (And.intro hE8 (And.intro fr8 (b5.trans ((b58.drew).mono b5.size))))
              clear f5 hE5 fr8 hE8
              clear hw8 g8 b5 hsl hrow hown b7 b78 b57 b58
              have hlt2 : ¬ ((m.length : Int) < (i : Int) + 2) := by omega
              have hc1 : (i : Int) + 2 ≤ (vc : Int) := by omega
              have hwr : IntKind.i64.wrap ((i : Int) + 2) = (i : Int) + 2 := wrap_small i (by omega)
              have hwn : ((i : Int) + 2).toNat = i + 2 := by omega
              have hw0 : (0 : Int) ≤ (i : Int) + 2 := by omega
              have hc2 : (i : Int) + 2 ≤ (mc : Int) := by omega
              have HM := hide (And.intro hok (And.intro hris ht))
              clear b6 hr5 ht hok hris
              simp only [Out.why, Out.fa, Out.toks]
              go_wp2_with fail
              rw [← unhide HW8]
              clear HW8
              refine region_mixN (md := [(0, true), (1, true), (2, true), (3, true), (4, true), (5, true), (6, true), (7, true), (8, true), (9, true), (10, true), (11, true), (12, true), (13, true), (14, true), (15, true), (16, true), (17, true), (18, true), (19, false), (20, true), (21, true)]) (fun w' => w'.heap[w7.heap.size]? = some (.cells #[.int .i64 0, .int .i64 0] 31 (0, 0))) mixedO (by kernel_rfl) rfl (by kernel_rfl) (fun PP hPP => ?_)
              refine wpMix_take (v := ?_) rfl (by kernel_rfl) (fun w' hw => ?_) ?_
              rotate_left
              · (obtain ⟨u0, u1, uf⟩ := cl2 hw; go_simp; try with_reducible rfl)
              refine wpMix_take (v := ?_) rfl (by kernel_rfl) (fun w' hw => ?_) ?_
              rotate_left
              · (go_simp; try with_reducible rfl)
              refine wpMix_take (v := .bool false) rfl (by kernel_rfl) (fun w' hw => ?_) ?_
              · (go_simp; try with_reducible rfl)
              refine wpMix_take (v := .bool false) rfl (by kernel_rfl) (fun w' hw => ?_) ?_
              · (go_simp; try with_reducible rfl)
              refine wpMix_take (v := ?_) rfl (by kernel_rfl) (fun w' hw => ?_) ?_
              rotate_left
              · (go_simp; try with_reducible rfl)
              refine wpMix_take (v := ?_) rfl (by kernel_rfl) (fun w' hw => ?_) ?_
              rotate_left
              · (go_simp; try with_reducible rfl)
              refine wpMix_take (v := ?_) rfl (by kernel_rfl) (fun w' hw => ?_) ?_
              rotate_left
              · (go_simp; try with_reducible rfl)
              refine wpMix_take (v := ?_) rfl (by kernel_rfl) (fun w' hw => ?_) ?_
              rotate_left
              · (go_simp; try with_reducible rfl)
              refine wpMix_take (v := .bool false) rfl (by kernel_rfl) (fun w' hw => ?_) ?_
              · (go_simp; try with_reducible rfl)
              refine wpMix_take (v := .bool false) rfl (by kernel_rfl) (fun w' hw => ?_) ?_
              · (go_simp; try with_reducible rfl)
              refine wpMix_take (v := .bool false) rfl (by kernel_rfl) (fun w' hw => ?_) ?_
              · (go_simp; try with_reducible rfl)
              refine wpMix_take (v := ?_) rfl (by kernel_rfl) (fun w' hw => ?_) ?_
              rotate_left
              · (go_simp; try with_reducible rfl)
              refine wpMix_take (v := ?_) rfl (by kernel_rfl) (fun w' hw => ?_) ?_
              rotate_left
              · (go_simp; try with_reducible rfl)
              refine wpMix_take (v := ?_) rfl (by kernel_rfl) (fun w' hw => ?_) ?_
              rotate_left
              · (go_simp; try with_reducible rfl)
              refine wpMix_take (v := ?_) rfl (by kernel_rfl) (fun w' hw => ?_) ?_
              rotate_left
              · (go_simp; try with_reducible rfl)
              refine wpMix_take (v := ?_) rfl (by kernel_rfl) (fun w' hw => ?_) ?_
              rotate_left
              · (go_simp; try with_reducible rfl)
              refine wpMix_take (v := ?_) rfl (by kernel_rfl) (fun w' hw => ?_) ?_
              rotate_left
              · (go_simp; try with_reducible rfl)
              refine wpMix_take (v := ?_) rfl (by kernel_rfl) (fun w' hw => ?_) ?_
              rotate_left
              · (go_simp; try with_reducible rfl)
              refine wpMix_take (v := ?_) rfl (by kernel_rfl) (fun w' hw => ?_) ?_
              rotate_left
              · (go_simp; try with_reducible rfl)
              refine wpMix_force rfl (unhide HGB) (fun K hK => ?_)
              go_simp
              refine hst.mono ?_
              clear hst
              rintro e w9 ⟨bb, rfl, hbb, b9⟩
              have hgb9 := hide ((b9.block _ (by have := lt_hp (unhide HGB); exact this)).trans (unhide HGB))
              have HB9 := hide b9
              clear b9
              cases bb with
              | false =>
                clear hbb
                go_wp2_with fail
                refine wpMix_take (v := ?_) rfl (by kernel_rfl) (fun w' hw => ?_) ?_
                rotate_left
                · (go_simp; try with_reducible rfl)
                refine wpMix_take (v := ?_) rfl (by kernel_rfl) (fun w' hw => ?_) ?_
                rotate_left
                · (go_simp; try with_reducible rfl)
                refine wpMix_nil (unhide hgb9) (hPP _ _ ?_)
                clear hPP PP
                simp [Act.put, Array.setIfInBounds]
                obtain ⟨hE8, fr8, b08⟩ := unhide HC8
                have hal := alive9_any w9 (hE8.later (unhide HB9))
                have HBW9 := hide (b08.trans ((unhide HB9).mono b08.size))
                clear hE8 fr8 b08
                go_wp2_with fail
                refine hal.mono ?_
                clear hal
                rintro en w10 ⟨rfl, b10⟩
                have B10 := hide b10
                clear b10
                go_wp2_with fail
                go_ret
                exact ⟨rfl, (unhide HBW9).trans ((unhide B10).mono (unhide HBW9).size)⟩
              | true =>
                obtain ⟨hok, hris, ht⟩ := unhide HM
                obtain ⟨r2, hr2⟩ := first_pure hok hou (unhide HQ) ht (unhide HAT) (by rw [unhide HN]; omega) (by omega) (hbb rfl)
                obtain ⟨hE8, fr8, b08⟩ := unhide HC8
                have hE9 := hE8.later (unhide HB9)
                have hus : u.size ≤ 140737488355328 := by
                  have := (lex_ok hou).1
                  rw [← size_len] at this
                  omega
                have hpu := parse_any u hus w9 hE9
                rw [hr2] at hpu
                have fr9 : w9.heap[fb]? = some (.cells #[.int .i64 10, .int .i64 a] 31 (0, 0)) := ((unhide HB9).block _ (lt_hp (w := w8) fr8)).trans fr8
                have H9 := hide (And.intro hE9 (And.intro fr9 (b08.trans ((unhide HB9).mono b08.size))))
                clear hok hris ht hr2 hE8 fr8 b08 hE9 hus fr9 hbb
                go_wp2_with fail
                refine wpMix_take (v := ?_) rfl (by kernel_rfl) (fun w' hw => ?_) ?_
                rotate_left
                · (go_simp; try with_reducible rfl)
                refine wpMix_take (v := ?_) rfl (by kernel_rfl) (fun w' hw => ?_) ?_
                rotate_left
                · (go_simp; try with_reducible rfl)
                refine wpMix_nil (unhide hgb9) (hPP _ _ ?_)
                clear hPP PP
                simp [Act.put, Array.setIfInBounds]
                go_wp2_with fail
                refine hpu.mono ?_
                clear hpu
                rintro e w10 ⟨rfl, b10⟩
                obtain ⟨hE9, fr9, b09⟩ := unhide H9
                obtain ⟨w12, hw12⟩ : ∃ w12, w12 = (w10.alloc (.cells #[.slice none 0 0, .slice none 0 0, .slice none 0 0, .slice none 0 0, .slice none 0 0] 28)).alloc (.cells #[.int .i64 10, .int .i64 a] 31) := ⟨_, rfl⟩
                have b12 : Below w9.heap.size w9 w12 := by rw [hw12]; exact (b10.alloc b10.size _).alloc (by simp; have := b10.size; omega) _
                have p12 : w12.heap[w10.heap.size + 1]? = some (.cells #[.int .i64 10, .int .i64 a] 31 (0, 0)) := by
                  rw [hw12]
                  have := heap_alloc_new (w10.alloc (.cells #[.slice none 0 0, .slice none 0 0, .slice none 0 0, .slice none 0 0, .slice none 0 0] 28)) (.cells #[.int .i64 10, .int .i64 a] 31)
                  rw [show (w10.alloc (.cells #[.slice none 0 0, .slice none 0 0, .slice none 0 0, .slice none 0 0, .slice none 0 0] 28)).heap.size = w10.heap.size + 1 by simp] at this
                  exact this
                have fr12 := (b12.block _ (lt_hp fr9)).trans fr9
                obtain ⟨k0, k1, kf⟩ := cl2 p12
                obtain ⟨j0, j1, jf⟩ := cl2 fr12
                have hal := alive9_any w12 (hE9.later b12)
                have HBW12 := hide (b09.trans (b12.mono b09.size))
                clear b10 hE9 fr9 b09 b12 p12 fr12
                subst hw12
                go_wp2_with fail
                refine hal.mono ?_
                clear hal
                rintro en w13 ⟨rfl, b13⟩
                have B13 := hide b13
                clear b13
                go_wp2_with fail
                go_ret
                exact ⟨rfl, (unhide HBW12).trans ((unhide B13).mono (unhide HBW12).size)⟩
      · have g1 : ((t.at_ : Int) != a) = true := by simpa using hat
        clear hat
        go_wp2_with fail
        go_roundw
        case rel => exact ⟨i + 1, by go_num, by omega, hide (unhide HB6).1⟩
        case measure => simp [intOf]; omega
    · have HEV := hide (hE5.later bw)
      have HBW := hide (b5.trans (bw.mono b5.size))
      clear b5 f5 hE5 hsl hrow bw fr f0 f1 ff
      have hal := alive9_any wr (unhide HEV)
      go_wp2_with fail
      refine hal.mono ?_
      clear hal
      rintro en w9 ⟨rfl, b9⟩
      have B9 := hide b9
      clear b9
      go_wp2_with fail
      go_ret
      exact ⟨rfl, (unhide HBW).trans ((unhide B9).mono (unhide HBW).size)⟩
/-- Whatever the texts are. -/
theorem first_walk (s z : ByteArray) (hs : s.size ≤ 140737488355328) (hz : z.size ≤ 140737488355328) (w : World) (hE : Env w) :
    Calls Tryz.prog 4 #[.string s, .string z] w fun e w' => e = .returned (.bool true) ∧ Below w.heap.size w w' := by
  by_cases h : ∃ a r, parseP s.data.toList = .bad 10 a r ∧ a < (s.size : Int)
  · obtain ⟨a, r, hq, ha⟩ := h
    exact first_on s z w hE hs hz hq ha
  · exact first_off s z w hE hs (fun a r hq => by
      by_cases ha : a < (s.size : Int)
      · exact absurd ⟨a, r, hq, ha⟩ h
      · omega)
end Go.Proofs.YtcdobniommnflaaGreatDoor
