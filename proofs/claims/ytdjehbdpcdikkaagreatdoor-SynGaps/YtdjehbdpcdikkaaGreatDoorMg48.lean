/- Walk of the law on gaps between a program's tokens. -/
import Derived.Test.YtdjehbdpcdikkaaGreatDoorMg35
import Derived.Test.YtdjehbdpcdikkaaGreatDoorMg36
import Derived.Test.YtdjehbdpcdikkaaGreatDoorMg40
import Derived.Test.YtdjehbdpcdikkaaGreatDoorMg47
import Derived.Deep.Cut
import Derived.Deep.CutRange
namespace Go.Proofs.YtdjehbdpcdikkaaGreatDoor
open Go.RowKit Go.Maps

abbrev fourG : Obj := .cells #[.string ⟨#[32]⟩, .string ⟨#[10]⟩, .string ⟨#[32, 47, 42, 32, 120, 32, 42, 47, 32]⟩, .string ⟨#[32, 47, 47, 32, 121, 10]⟩] 9
theorem gap_at4 (w : World) (c : Int) : ∃ gg : ByteArray, gg.data.toList ∈ gps ∧ gg.size ≤ 16 ∧ (w.alloc fourG).cell? ⟨w.heap.size, (c % 4).toNat, none⟩ = some (.string gg) := by
  have hb : (w.alloc fourG).heap[w.heap.size]? = some fourG := heap_alloc_new w fourG
  rcases (by omega : (c % 4).toNat = 0 ∨ (c % 4).toNat = 1 ∨ (c % 4).toNat = 2 ∨ (c % 4).toNat = 3) with h | h | h | h <;> rw [h]
  · exact ⟨⟨#[32]⟩, by decide, by decide, by rw [Lib.cell_of_heap hb]; rfl⟩
  · exact ⟨⟨#[10]⟩, by decide, by decide, by rw [Lib.cell_of_heap hb]; rfl⟩
  · exact ⟨⟨#[32, 47, 42, 32, 120, 32, 42, 47, 32]⟩, by decide, by decide, by rw [Lib.cell_of_heap hb]; rfl⟩
  · exact ⟨⟨#[32, 47, 47, 32, 121, 10]⟩, by decide, by decide, by rw [Lib.cell_of_heap hb]; rfl⟩
theorem cat_data9 (a b : ByteArray) : (a ++ b).data.toList = a.data.toList ++ b.data.toList := by simp [ByteArray.data_append]

set_option maxRecDepth 100000 in
set_option maxHeartbeats 32000000 in
theorem gaps9_walk (s : ByteArray) (a c : Int) (hs : s.size ≤ 140737488355328) (ha : -9223372036854775808 ≤ a ∧ a ≤ 9223372036854775807) (hc : 0 ≤ c ∧ c ≤ 255) (w : World) (hE : Env w) : Calls Tryz.prog 4 #[.string s, .int .i64 a, .int .u8 c] w fun e w' => e = .returned (.bool true) ∧ Below w.heap.size w w' := by
  have hp := parse_any s (by omega) w hE
  have HE := hide hE
  obtain ⟨ha1, ha2⟩ := ha
  obtain ⟨hk1, hk2⟩ := hc
  clear hE
  cases hq : parseP s.data.toList with
  | bad why at1 r =>
    rw [hq] at hp
    have hwz : (why == 0) = false := beq_eq_false_iff_ne.2 (parse_why hq)
    clear hq
    go_enter Tryz.func4, Tryz.ntmps4
    go_wp2_with fail
    refine hp.mono ?_
    clear hp
    rintro e w1 ⟨rfl, b1⟩
    obtain ⟨w3, hw3⟩ : ∃ w3, w3 = (w1.alloc (.cells #[.slice none 0 0, .slice none 0 0, .slice none 0 0, .slice none 0 0, .slice none 0 0] 28)).alloc (.cells #[.int .i64 why, .int .i64 at1] 31) := ⟨_, rfl⟩
    have b3 : Below w.heap.size w w3 := by rw [hw3]; exact (b1.alloc b1.size _).alloc (by simp; have := b1.size; omega) _
    have p3 : w3.heap[w1.heap.size]? = some (.cells #[.slice none 0 0, .slice none 0 0, .slice none 0 0, .slice none 0 0, .slice none 0 0] 28 (0, 0)) := by rw [hw3, Below.heap_alloc _ _ _ (by simp)]; exact heap_alloc_new w1 _
    have f3 : w3.heap[w1.heap.size + 1]? = some (.cells #[.int .i64 why, .int .i64 at1] 31 (0, 0)) := by
      rw [hw3]
      have := heap_alloc_new (w1.alloc (.cells #[.slice none 0 0, .slice none 0 0, .slice none 0 0, .slice none 0 0, .slice none 0 0] 28)) (.cells #[.int .i64 why, .int .i64 at1] 31)
      rw [show (w1.alloc (.cells #[.slice none 0 0, .slice none 0 0, .slice none 0 0, .slice none 0 0, .slice none 0 0] 28)).heap.size = w1.heap.size + 1 by simp] at this
      exact this
    have c3 : Below w1.heap.size w1 w3 := by rw [hw3]; exact ((Below.refl _ w1).alloc (Nat.le_refl _) _).alloc (by simp) _
    have htk := rtokens_all s (by omega) w3
    have HB3 := hide (And.intro b3 f3)
    have HW3 := hide hw3
    clear b1 b3 f3 hw3 p3 c3
    go_wp2_with fail
    rw [← unhide HW3]
    clear HW3
    refine htk.mono ?_
    clear htk
    rintro e w4 ⟨v, rfl, hown, b4⟩
    obtain ⟨b3, f3⟩ := unhide HB3
    obtain ⟨w5, hw5⟩ : ∃ w5, w5 = w4.alloc (.cells #[.int .i64 (lexP s.data.toList).why, .int .i64 (lexP s.data.toList).fa] 31) := ⟨_, rfl⟩
    have b5 : Below w.heap.size w w5 := by rw [hw5]; exact (b3.trans (b4.mono b3.size)).alloc (by have := b3.size; have := b4.size; omega) _
    have f5 : w5.heap[w1.heap.size + 1]? = some (.cells #[.int .i64 why, .int .i64 at1] 31 (0, 0)) := by
      rw [hw5, Below.heap_alloc _ _ _ (by have := lt_hp f3; have := b4.size; omega), b4.block _ (lt_hp f3)]; exact f3
    have hE5 := (unhide HE).later b5
    obtain ⟨va, vc, hv, _⟩ := slAt_of hown
    subst hv
    obtain ⟨z_0, z_1, zf⟩ := cl2 f5
    have hal := alive9_any w5 hE5
    have HBW := hide b5
    clear hown b4 b3 f3 b5 f5 hE5 HB3
    subst hw5
    go_wp2_with fail
    refine hal.mono ?_
    clear hal
    rintro en w9 ⟨rfl, b9⟩
    have B9 := hide b9
    clear b9
    go_wp2_with fail
    go_ret
    exact ⟨rfl, (unhide HBW).trans ((unhide B9).mono (unhide HBW).size)⟩
  | ok p l4 i4 =>
    rw [hq] at hp
    have HQ := hide hq
    obtain ⟨toks, ho⟩ : ∃ toks, lexP s.data.toList = .ok toks := by
      unfold parseP at hq
      cases h : lexP s.data.toList with
      | bad w a => rw [h] at hq; cases hq
      | ok toks => exact ⟨toks, rfl⟩
    clear hq
    go_enter Tryz.func4, Tryz.ntmps4
    go_wp2_with fail
    refine hp.mono ?_
    clear hp
    rintro e w1 ⟨_, rfl, ⟨a0, n0, q0, a1, n1, q1, a2, n2, q2, a3, n3, q3, a4, n4, q4, rfl, hP1⟩, b1⟩
    obtain ⟨w3, hw3⟩ : ∃ w3, w3 = (w1.alloc (.cells #[.slice a0 n0 q0, .slice a1 n1 q1, .slice a2 n2 q2, .slice a3 n3 q3, .slice a4 n4 q4] 28)).alloc (.cells #[.int .i64 0, .int .i64 0] 31) := ⟨_, rfl⟩
    have b3 : Below w.heap.size w w3 := by rw [hw3]; exact (b1.alloc b1.size _).alloc (by simp; have := b1.size; omega) _
    have p3 : w3.heap[w1.heap.size]? = some (.cells #[.slice a0 n0 q0, .slice a1 n1 q1, .slice a2 n2 q2, .slice a3 n3 q3, .slice a4 n4 q4] 28 (0, 0)) := by rw [hw3, Below.heap_alloc _ _ _ (by simp)]; exact heap_alloc_new w1 _
    have f3 : w3.heap[w1.heap.size + 1]? = some (.cells #[.int .i64 0, .int .i64 0] 31 (0, 0)) := by
      rw [hw3]
      have := heap_alloc_new (w1.alloc (.cells #[.slice a0 n0 q0, .slice a1 n1 q1, .slice a2 n2 q2, .slice a3 n3 q3, .slice a4 n4 q4] 28)) (.cells #[.int .i64 0, .int .i64 0] 31)
      rw [show (w1.alloc (.cells #[.slice a0 n0 q0, .slice a1 n1 q1, .slice a2 n2 q2, .slice a3 n3 q3, .slice a4 n4 q4] 28)).heap.size = w1.heap.size + 1 by simp] at this
      exact this
    have c3 : Below w1.heap.size w1 w3 := by rw [hw3]; exact ((Below.refl _ w1).alloc (Nat.le_refl _) _).alloc (by simp) _
    have htk := rtokens_all s (by omega) w3
    have hP3 : PgS (fun _ => True) w3 [.slice a0 n0 q0, .slice a1 n1 q1, .slice a2 n2 q2, .slice a3 n3 q3, .slice a4 n4 q4] p := hP1.move c3.size (fun b hl _ => c3.block b hl) (fun _ _ => trivial)
    rw [ho] at htk
    have HB3 := hide (And.intro b3 (And.intro p3 (And.intro f3 hP3)))
    have HW3 := hide hw3
    clear b1 b3 f3 hw3 p3 c3 hP1 hP3
    go_wp2_with fail
    rw [← unhide HW3]
    clear HW3
    refine htk.mono ?_
    clear htk
    rintro e w4 ⟨v, rfl, hown, b4⟩
    simp only [Out.why, Out.fa, Out.toks] at hown ⊢
    obtain ⟨b3, p3, f3, hP3⟩ := unhide HB3
    obtain ⟨w5, hw5⟩ : ∃ w5, w5 = w4.alloc (.cells #[.int .i64 0, .int .i64 0] 31) := ⟨_, rfl⟩
    have b45 : Below w4.heap.size w4 w5 := by rw [hw5]; exact (Below.refl _ w4).alloc (Nat.le_refl _) _
    have b35 : Below w3.heap.size w3 w5 := b4.trans (b45.mono b4.size)
    have b5 : Below w.heap.size w w5 := b3.trans (b35.mono b3.size)
    have p5 := (b35.block _ (lt_hp p3)).trans p3
    have f5 := (b35.block _ (lt_hp f3)).trans f3
    have hP5 : PgS (fun _ => True) w5 [.slice a0 n0 q0, .slice a1 n1 q1, .slice a2 n2 q2, .slice a3 n3 q3, .slice a4 n4 q4] p := hP3.move b35.size (fun b hl _ => b35.block b hl) (fun _ _ => trivial)
    have hE5 := (unhide HE).later b5
    have HRS := lex_ris s.data.toList
    rw [ho] at HRS
    obtain ⟨bx, hbx⟩ : ∃ bx, w1.heap.size = bx := ⟨_, rfl⟩
    obtain ⟨bf, hbf⟩ : ∃ bf, w1.heap.size + 1 = bf := ⟨_, rfl⟩
    rw [hbx] at p5
    rw [hbf] at f5
    obtain ⟨z_0, z_1, zf⟩ := cl2 f5
    by_cases h0 : toks = []
    · subst h0
      obtain ⟨ao, cap, rfl⟩ := slice_of hown
      have hal := alive9_any w5 hE5
      have HBW := hide b5
      rw [hbf, hbx]
      clear hown b4 b3 f3 p3 hP3 b5 b45 b35 f5 p5 hP5 hE5 HB3 ho HRS HQ hbx hbf
      subst hw5
      go_wp2_with fail
      refine hal.mono ?_
      clear hal
      rintro en w9 ⟨rfl, b9⟩
      have B9 := hide b9
      clear b9
      go_wp2_with fail
      go_ret
      exact ⟨rfl, (unhide HBW).trans ((unhide B9).mono (unhide HBW).size)⟩
    · obtain ⟨g, cap, rfl, hrow⟩ : ∃ g cap, v = .slice (some ⟨g, 0, none⟩) toks.length cap ∧ RowAt w4 g cap toks := by
        rcases row_of hown with h | h
        · exact absurd h.2 h0
        · exact h
      obtain ⟨n, hn⟩ : ∃ n, toks.length = n := ⟨_, rfl⟩
      have hn0 : 0 < n := by rw [← hn]; exact List.length_pos_iff.2 h0
      obtain ⟨b, i, hb, hb2, hb3, hi, hin⟩ := idx_of a hn0
      obtain ⟨t, ht⟩ : ∃ t, toks[i]? = some t := ⟨toks[i]'(by omega), List.getElem?_eq_getElem _⟩
      obtain ⟨hat, _⟩ := heads_pure ho ht
      have hnl := ris_len (Nat.zero_le _) HRS
      rw [hn, Nat.zero_add, ← size_len] at hnl
      rw [← size_len] at hat
      have hcl := hrow.le
      rw [hn] at hcl
      have hcm := hrow.cm
      unfold maxLen at hcm
      have h0' : ((n : Int) == 0) = false := by rw [beq_eq_false_iff_ne]; omega
      by_cases hbig : 65536 < s.size + 16
      · have hbi : decide ((65536 : Int) < (s.size : Int) + 16) = true := decide_eq_true (by omega)
        have hal := alive9_any w5 hE5
        have HBW := hide b5
        rw [hn, hbf, hbx]
        clear hown b4 b3 f3 p3 hP3 b5 b45 b35 f5 p5 hP5 hE5 HB3 ho HRS HQ hbx hbf hrow ht hn h0 hbig hat
        subst hw5
        go_wp2_with fail
        refine hal.mono ?_
        clear hal
        rintro en w9 ⟨rfl, b9⟩
        have B9 := hide b9
        clear b9
        go_wp2_with fail
        go_ret
        exact ⟨rfl, (unhide HBW).trans ((unhide B9).mono (unhide HBW).size)⟩
      · have hbi : decide ((65536 : Int) < (s.size : Int) + 16) = false := decide_eq_false (by omega)
        obtain ⟨gg, hgm, hgs, hgp⟩ := gap_at4 w5 c
        obtain ⟨q, l5, i5, hq5, heq⟩ := gaps_parse (unhide HQ) ho ht hgm (by rw [← size_len]; omega)
        have hrun1 := run_head s t.at_ (by omega)
        have hrun2 := run_tail s t.at_ (t.at_ : Int) rfl (by omega)
        obtain ⟨u, hu⟩ : ∃ u, s.extract 0 t.at_ = u := ⟨_, rfl⟩
        obtain ⟨u2, hu2⟩ : ∃ u2, s.extract t.at_ s.size = u2 := ⟨_, rfl⟩
        have hul : u.data.toList = s.data.toList.take t.at_ := by rw [← hu]; exact ext_head s t.at_
        have hul2 : u2.data.toList = s.data.toList.drop t.at_ := by rw [← hu2]; exact ext_drop s t.at_
        rw [hu] at hrun1
        rw [hu2] at hrun2
        rw [← hul, ← hul2] at hq5
        have hz1 : u.size ≤ 65536 := by rw [size_len, hul, List.length_take, ← size_len]; omega
        have hz2 : u2.size ≤ 65536 := by rw [size_len, hul2, List.length_drop, ← size_len]; omega
        have hcat1 : ∀ w : World, (Op.stringOp .add u gg).run Tryz.prog w = .ok (.string (u ++ gg)) w := fun w => run_string_add_sum w u gg (by omega)
        have hcat2 : ∀ w : World, (Op.stringOp .add (u ++ gg) u2).run Tryz.prog w = .ok (.string ((u ++ gg) ++ u2)) w := fun w => run_string_add_sum w _ u2 (by rw [ByteArray.size_append]; omega)
        obtain ⟨v1, hv1⟩ : ∃ v1, u ++ gg = v1 := ⟨_, rfl⟩
        obtain ⟨U0, hU⟩ : ∃ U0, v1 ++ u2 = U0 := ⟨_, rfl⟩
        have hUl : U0.data.toList = u.data.toList ++ (gg.data.toList ++ u2.data.toList) := by rw [← hU, ← hv1, cat_data9, cat_data9, List.append_assoc]
        have hUs : U0.size ≤ 140737488355328 := by rw [← hU, ← hv1, ByteArray.size_append, ByteArray.size_append]; omega
        rw [hv1] at hcat1 hcat2
        rw [hU] at hcat2
        rw [← hUl] at hq5
        obtain ⟨X, hX⟩ : ∃ X, w5.alloc fourG = X := ⟨_, rfl⟩
        have b5X : Below w5.heap.size w5 X := by rw [← hX]; exact (Below.refl _ w5).alloc (Nat.le_refl _) _
        have hrX := (hrow.later b45).later b5X
        have cX := (hrX.cells i t ht).2.2.2
        have HC : Hid (∀ w', Below X.heap.size X w' → w'.cell? ⟨g, i * 4 + 3, none⟩ = some (.int .i64 (t.at_ : Int))) := fun w' hb => by rw [hb.cell (p := ⟨g, _, none⟩) hrX.lt]; exact cX
        have bX : Below w.heap.size w X := b5.trans (b5X.mono b5.size)
        have HCALL := hide (show ∀ W, Below X.heap.size X W → Calls Tryz.prog 12 #[.string U0] W fun e w' => PsA W (parseP U0.data.toList) e w' from
          fun W hW => parse_any U0 (by omega) W ((unhide HE).later (bX.trans (hW.mono bX.size))))
        rw [hq5] at HCALL
        have pX := (b5X.block _ (lt_hp p5)).trans p5
        have hPX : PgS (fun _ => True) X [.slice a0 n0 q0, .slice a1 n1 q1, .slice a2 n2 q2, .slice a3 n3 q3, .slice a4 n4 q4] p := hP5.move b5X.size (fun b hl _ => b5X.block b hl) (fun _ _ => trivial)
        have HX := hide hX
        have HBX := hide (And.intro bX (And.intro pX hPX))
        have HEQ := hide heq
        have hneg : decide ((t.at_ : Int) < 0) = false := decide_eq_false (by omega)
        have hgt : decide (s.size < t.at_) = false := decide_eq_false (by omega)
        rw [hn, hbf, hbx]
        clear hown b4 b3 f3 p3 hP3 b5 b45 b35 f5 p5 hP5 hE5 HB3 ho HRS HQ hbx hbf hrow ht hn h0 hbig b5X hrX cX bX pX hPX hq5 heq hX hu hu2 hul hul2 hgm hUl hv1 hU
        subst hw5
        rw [show (w4.alloc (.cells #[.int .i64 0, .int .i64 0] 31)).heap.size = w4.heap.size + 1 by simp] at hgp
        go_wp2_with fail
        rw [show (w4.alloc (.cells #[.int .i64 0, .int .i64 0] 31)).alloc (.cells #[.string ⟨#[32]⟩, .string ⟨#[10]⟩, .string ⟨#[32, 47, 42, 32, 120, 32, 42, 47, 32]⟩, .string ⟨#[32, 47, 47, 32, 121, 10]⟩] 9) = X from unhide HX]
        clear hgp HX z_0 z_1 zf
        go_cut [12, 13] from 54 to 74 (fun u12 u13 wc => ∃ p1 p2 e0 m0 o0 e1 m1 o1 e2 m2 o2 e3 m3 o3 e4 m4 o4, u12 = .pointer (some ⟨p1, 0, none⟩) ∧ u13 = .pointer (some ⟨p2, 0, none⟩) ∧ Bxd X wc p1 p2 (.slice e0 m0 o0) (.slice e1 m1 o1) (.slice e2 m2 o2) (.slice e3 m3 o3) (.slice e4 m4 o4) (.int .i64 0) (.int .i64 0) ∧ PgS (fun _ => True) wc [.slice e0 m0 o0, .slice e1 m1 o1, .slice e2 m2 o2, .slice e3 m3 o3, .slice e4 m4 o4] q)
        case first =>
          obtain ⟨Xp, hXp⟩ : ∃ Xp, Xp = (X.alloc pgZ).drew := ⟨_, rfl⟩
          have bXp : Below X.heap.size X Xp := by rw [hXp]; exact ((Below.refl _ X).alloc (Nat.le_refl _) _).drew
          obtain ⟨Xf, hXf⟩ : ∃ Xf, Xf = (X.alloc ftZ).drew := ⟨_, rfl⟩
          have bXf : Below X.heap.size X Xf := by rw [hXf]; exact ((Below.refl _ X).alloc (Nat.le_refl _) _).drew
          obtain ⟨Xpf, hXpf⟩ : ∃ Xpf, Xpf = Xp.alloc ftZ := ⟨_, rfl⟩
          have bXpf : Below X.heap.size X Xpf := by rw [hXpf]; exact bXp.alloc bXp.size _
          obtain ⟨Xfp, hXfp⟩ : ∃ Xfp, Xfp = Xf.alloc pgZ := ⟨_, rfl⟩
          have bXfp : Below X.heap.size X Xfp := by rw [hXfp]; exact bXf.alloc bXf.size _
          have HXp := hide hXp
          clear hXp
          have HXf := hide hXf
          clear hXf
          have HXpf := hide hXpf
          clear hXpf
          have HXfp := hide hXfp
          clear hXfp
          refine region_tr (tr := (.take 0 (.take 1 (.take 2 (.take 3 (.take 4 (.take 5 (.take 6 (.take 7 (.take 8 (.take 9 (.take 10 (.take 11 (.take 12 (.take 13 (.take 14 (.take 15 (.take 16 (.three 17 21 22 (.take 18 (.take 19 (.take 20 (.two 21 22 (.one 22 (.one 23 (.one 24 .nil))) (.one 21 (.one 23 (.one 24 .nil))))))) (.two 17 22 (.take 18 (.take 19 (.take 20 (.one 22 (.one 23 (.one 24 .nil)))))) (.one 17 (.take 18 (.take 19 (.take 20 (.one 23 (.one 24 .nil))))))) (.two 17 21 (.take 18 (.take 19 (.take 20 (.one 21 (.one 23 (.one 24 .nil)))))) (.one 17 (.take 18 (.take 19 (.take 20 (.one 23 (.one 24 .nil)))))))))))))))))))))))))) (fun w' => w'.cell? ⟨g, i * 4 + 3, none⟩ = some (.int .i64 (t.at_ : Int))) mixedO (by kernel_rfl) rfl (by kernel_rfl) (fun PP hPP => ?_)
          iterate 5 (refine wpTr_take (v := ?_) rfl (by kernel_rfl) (fun w' hw => ?_) ?_; rotate_left; · (go_simp; try with_reducible rfl))
          refine wpTr_take (v := ?_) rfl (by kernel_rfl) (fun w' hw => ?_) ?_
          rotate_left
          · (have cx := hw; go_simp; try with_reducible rfl)
          refine wpTr_take (v := ?_) rfl (by kernel_rfl) (fun w' hw => ?_) ?_
          rotate_left
          · (have h1 := hrun1 w'; go_simp; try with_reducible rfl)
          refine wpTr_take (v := ?_) rfl (by kernel_rfl) (fun w' hw => ?_) ?_
          rotate_left
          · (go_simp; try with_reducible rfl)
          refine wpTr_take (v := ?_) rfl (by kernel_rfl) (fun w' hw => ?_) ?_
          rotate_left
          · (have h1 := hcat1 w'; go_simp; try with_reducible rfl)
          iterate 5 (refine wpTr_take (v := ?_) rfl (by kernel_rfl) (fun w' hw => ?_) ?_; rotate_left; · (go_simp; try with_reducible rfl))
          refine wpTr_take (v := ?_) rfl (by kernel_rfl) (fun w' hw => ?_) ?_
          rotate_left
          · (have cx := hw; go_simp; try with_reducible rfl)
          refine wpTr_take (v := ?_) rfl (by kernel_rfl) (fun w' hw => ?_) ?_
          rotate_left
          · (have h1 := hrun2 w'; go_simp; try with_reducible rfl)
          refine wpTr_take (v := ?_) rfl (by kernel_rfl) (fun w' hw => ?_) ?_
          rotate_left
          · (have h1 := hcat2 w'; go_simp; try with_reducible rfl)
          refine wpTr_three rfl rfl rfl (unhide HC _ ((Below.refl X.heap.size X).drew)) (fun K hK => ?_) (fun K hK => ?_) (fun K hK => ?_)
          · go_simp
            refine (unhide HCALL X.drew (Below.refl X.heap.size X).drew).mono ?_
            rintro e w2 ⟨_, rfl, ⟨e0, m0, o0, e1, m1, o1, e2, m2, o2, e3, m3, o3, e4, m4, o4, rfl, hP2⟩, b2⟩
            show K _ _
            refine hK _ _ ?_
            clear hK K
            iterate 3 (refine wpTr_take (v := ?_) rfl (by kernel_rfl) (fun w' hw => ?_) ?_; rotate_left; · (go_simp; try with_reducible rfl))
            have hs2 : X.heap.size ≤ w2.heap.size := b2.size
            have hCW : Below X.heap.size X w2 := (Below.refl X.heap.size X).drew.trans b2
            have HCW := hide hCW
            refine wpTr_two rfl rfl (unhide HC _ (unhide HCW)) (fun K hK => ?_) (fun K hK => ?_)
            · obtain ⟨U, hUe⟩ : ∃ U, U = w2.alloc pgZ := ⟨_, rfl⟩
              obtain ⟨V, hVe⟩ : ∃ V, V = U.alloc ftZ := ⟨_, rfl⟩
              have cU : Below w2.heap.size w2 U := by rw [hUe]; exact (Below.refl _ w2).alloc (Nat.le_refl _) _
              have sU : U.heap.size = w2.heap.size + 1 := by rw [hUe]; simp
              have cV : Below U.heap.size U V := by rw [hVe]; exact (Below.refl _ U).alloc (Nat.le_refl _) _
              have l0 : U.heap[w2.heap.size]? = some pgZ := by rw [hUe]; exact heap_alloc_new w2 _
              have l0 := (cV.block _ (lt_hp l0)).trans l0
              have l1 : V.heap[U.heap.size]? = some ftZ := by rw [hVe]; exact heap_alloc_new U _
              have hXU : Below X.heap.size X U := (unhide HCW).trans (cU.mono (unhide HCW).size)
              have hV : Below X.heap.size X V := hXU.trans (cV.mono hXU.size)
              have hsV : w2.heap.size ≤ V.heap.size := Nat.le_trans cU.size cV.size
              have hoV : ∀ b, b < w2.heap.size → V.heap[b]? = w2.heap[b]? := fun b hb => (cV.block b (by omega)).trans (cU.block b hb)
              obtain ⟨nb, hnb⟩ : ∃ nb, nb = w2.heap.size := ⟨_, rfl⟩
              obtain ⟨nc, hnc⟩ : ∃ nc, nc = U.heap.size := ⟨_, rfl⟩
              rw [← hnb] at l0
              rw [← hnc] at l1
              have HXU := hide hXU
              have HUe := hide hUe
              have HVe := hide hVe
              have HNB := hide hnb
              have HNC := hide hnc
              obtain ⟨c1, c2, hbx, hsz, hot⟩ := two_box (X := X) (V := V) (p1 := nb) (p2 := nc) (c0 := .slice e0 m0 o0) (c1 := .slice e1 m1 o1) (c2 := .slice e2 m2 o2) (c3 := .slice e3 m3 o3) (c4 := .slice e4 m4 o4) (f0 := .int .i64 0) (f1 := .int .i64 0) l0 l1 (by omega) (by omega) hV
              have hPV := hP2.move (S' := fun _ => True) (by rw [hsz]; exact hsV) (fun b hl hb => (hot b (by omega) (by omega)).trans (hoV b hl)) (fun _ _ => trivial)
              have HV := hide (And.intro hV (And.intro l0 hsV))
              have HN := hide (And.intro c1 (And.intro c2 (And.intro hbx hPV)))
              clear l0 l1 cU cV hUe hVe hnb hnc hXU sU c1 c2 hbx hsz hot hPV hV hsV hoV hP2 b2
              go_simp
              rw [← unhide HUe, ← unhide HNB]
              refine hK _ _ ?_
              clear hK K
              refine wpTr_one rfl (unhide HC _ (unhide HXU)) (fun K hK => ?_)
              go_simp
              rw [← unhide HVe, ← unhide HNC]
              refine hK _ _ ?_
              clear hK K
              refine wpTr_one rfl (unhide HC _ (unhide HV).1) (fun K hK => store_drawn rfl _ _ _ rfl nb _ _ _ rfl rfl (unhide HV).2.1 (by kernel_rfl) rfl (by simp [Value.oneCell']) (hK _ _ ?_))
              clear hK K
              refine wpTr_one rfl (unhide HC _ (unhide HN).1) (fun K hK => store_drawn rfl _ _ _ rfl nc _ _ _ rfl rfl (unhide HN).2.1 (by kernel_rfl) rfl (by simp [Value.oneCell']) (hK _ _ ?_))
              clear hK K
              refine wpTr_nil (unhide HC _ (unhide HN).2.2.1.bel) (hPP _ _ ?_)
              clear hPP PP
              go_wp2_with fail
              go_meet
              exact ⟨_, _, _, _, _, _, _, _, _, _, _, _, _, _, _, _, _, rfl, rfl, (unhide HN).2.2.1, (unhide HN).2.2.2⟩
            · obtain ⟨U, hUe⟩ : ∃ U, U = w2.alloc ftZ := ⟨_, rfl⟩
              obtain ⟨V, hVe⟩ : ∃ V, V = U.alloc pgZ := ⟨_, rfl⟩
              have cU : Below w2.heap.size w2 U := by rw [hUe]; exact (Below.refl _ w2).alloc (Nat.le_refl _) _
              have sU : U.heap.size = w2.heap.size + 1 := by rw [hUe]; simp
              have cV : Below U.heap.size U V := by rw [hVe]; exact (Below.refl _ U).alloc (Nat.le_refl _) _
              have l0 : U.heap[w2.heap.size]? = some ftZ := by rw [hUe]; exact heap_alloc_new w2 _
              have l0 := (cV.block _ (lt_hp l0)).trans l0
              have l1 : V.heap[U.heap.size]? = some pgZ := by rw [hVe]; exact heap_alloc_new U _
              have hXU : Below X.heap.size X U := (unhide HCW).trans (cU.mono (unhide HCW).size)
              have hV : Below X.heap.size X V := hXU.trans (cV.mono hXU.size)
              have hsV : w2.heap.size ≤ V.heap.size := Nat.le_trans cU.size cV.size
              have hoV : ∀ b, b < w2.heap.size → V.heap[b]? = w2.heap[b]? := fun b hb => (cV.block b (by omega)).trans (cU.block b hb)
              obtain ⟨nb, hnb⟩ : ∃ nb, nb = w2.heap.size := ⟨_, rfl⟩
              obtain ⟨nc, hnc⟩ : ∃ nc, nc = U.heap.size := ⟨_, rfl⟩
              rw [← hnb] at l0
              rw [← hnc] at l1
              have HXU := hide hXU
              have HUe := hide hUe
              have HVe := hide hVe
              have HNB := hide hnb
              have HNC := hide hnc
              obtain ⟨c1, c2, hbx, hsz, hot⟩ := two_box (X := X) (V := V) (p1 := nc) (p2 := nb) (c0 := .slice e0 m0 o0) (c1 := .slice e1 m1 o1) (c2 := .slice e2 m2 o2) (c3 := .slice e3 m3 o3) (c4 := .slice e4 m4 o4) (f0 := .int .i64 0) (f1 := .int .i64 0) l1 l0 (by omega) (by omega) hV
              have hPV := hP2.move (S' := fun _ => True) (by rw [hsz]; exact hsV) (fun b hl hb => (hot b (by omega) (by omega)).trans (hoV b hl)) (fun _ _ => trivial)
              have HV := hide (And.intro hV (And.intro l1 hsV))
              have HN := hide (And.intro c1 (And.intro c2 (And.intro hbx hPV)))
              clear l0 l1 cU cV hUe hVe hnb hnc hXU sU c1 c2 hbx hsz hot hPV hV hsV hoV hP2 b2
              go_simp
              rw [← unhide HUe, ← unhide HNB]
              refine hK _ _ ?_
              clear hK K
              refine wpTr_one rfl (unhide HC _ (unhide HXU)) (fun K hK => ?_)
              go_simp
              rw [← unhide HVe, ← unhide HNC]
              refine hK _ _ ?_
              clear hK K
              refine wpTr_one rfl (unhide HC _ (unhide HV).1) (fun K hK => store_drawn rfl _ _ _ rfl nc _ _ _ rfl rfl (unhide HV).2.1 (by kernel_rfl) rfl (by simp [Value.oneCell']) (hK _ _ ?_))
              clear hK K
              refine wpTr_one rfl (unhide HC _ (unhide HN).1) (fun K hK => store_drawn rfl _ _ _ rfl nb _ _ _ rfl rfl (unhide HN).2.1 (by kernel_rfl) rfl (by simp [Value.oneCell']) (hK _ _ ?_))
              clear hK K
              refine wpTr_nil (unhide HC _ (unhide HN).2.2.1.bel) (hPP _ _ ?_)
              clear hPP PP
              go_wp2_with fail
              go_meet
              exact ⟨_, _, _, _, _, _, _, _, _, _, _, _, _, _, _, _, _, rfl, rfl, (unhide HN).2.2.1, (unhide HN).2.2.2⟩
          · go_simp
            rw [← unhide HXp]
            refine hK _ _ ?_
            clear hK K
            refine wpTr_two rfl rfl (unhide HC _ bXp) (fun K hK => ?_) (fun K hK => ?_)
            · go_simp
              refine (unhide HCALL Xp bXp).mono ?_
              rintro e w2 ⟨_, rfl, ⟨e0, m0, o0, e1, m1, o1, e2, m2, o2, e3, m3, o3, e4, m4, o4, rfl, hP2⟩, b2⟩
              show K _ _
              refine hK _ _ ?_
              clear hK K
              iterate 3 (refine wpTr_take (v := ?_) rfl (by kernel_rfl) (fun w' hw => ?_) ?_; rotate_left; · (go_simp; try with_reducible rfl))
              have s1 : Xp.heap.size = X.heap.size + 1 := by rw [unhide HXp]; simp
              have k0 : Xp.heap[X.heap.size]? = some pgZ := by rw [unhide HXp]; exact heap_alloc_new X _
              have l0 := (b2.block _ (lt_hp k0)).trans k0
              have hs2 := b2.size
              obtain ⟨V, hVe⟩ : ∃ V, V = w2.alloc ftZ := ⟨_, rfl⟩
              have cV : Below w2.heap.size w2 V := by rw [hVe]; exact (Below.refl _ w2).alloc (Nat.le_refl _) _
              have l1 : V.heap[w2.heap.size]? = some ftZ := by rw [hVe]; exact heap_alloc_new w2 _
              have l0 := (cV.block _ (lt_hp l0)).trans l0
              have hV : Below X.heap.size X V := (bXp.trans (b2.mono bXp.size)).trans (cV.mono (bXp.trans (b2.mono bXp.size)).size)
              have hsV : w2.heap.size ≤ V.heap.size := cV.size
              have hoV : ∀ b, b < w2.heap.size → V.heap[b]? = w2.heap[b]? := fun b hb => cV.block b hb
              obtain ⟨nb, hnb⟩ : ∃ nb, nb = w2.heap.size := ⟨_, rfl⟩
              have hCW := bXp.trans (b2.mono bXp.size)
              have HCW := hide hCW
              have HVe := hide hVe
              have HNB := hide hnb
              rw [← hnb] at l1
              obtain ⟨c1, c2, hbx, hsz, hot⟩ := two_box (X := X) (V := V) (p1 := X.heap.size) (p2 := nb) (c0 := .slice e0 m0 o0) (c1 := .slice e1 m1 o1) (c2 := .slice e2 m2 o2) (c3 := .slice e3 m3 o3) (c4 := .slice e4 m4 o4) (f0 := .int .i64 0) (f1 := .int .i64 0) l0 l1 (by omega) (by omega) hV
              have hPV := hP2.move (S' := fun _ => True) (by rw [hsz]; exact hsV) (fun b hl hb => (hot b (by omega) (by omega)).trans (hoV b hl)) (fun _ _ => trivial)
              have HV := hide (And.intro hV (And.intro l0 hsV))
              have HN := hide (And.intro c1 (And.intro c2 (And.intro hbx hPV)))
              clear l0 l1 k0 cV hVe hnb hCW s1 hs2 c1 c2 hbx hsz hot hPV hV hsV hoV hP2 b2
              refine wpTr_one rfl (unhide HC _ (unhide HCW)) (fun K hK => ?_)
              go_simp
              rw [← unhide HVe, ← unhide HNB]
              refine hK _ _ ?_
              clear hK K
              refine wpTr_one rfl (unhide HC _ (unhide HV).1) (fun K hK => store_drawn rfl _ _ _ rfl X.heap.size _ _ _ rfl rfl (unhide HV).2.1 (by kernel_rfl) rfl (by simp [Value.oneCell']) (hK _ _ ?_))
              clear hK K
              refine wpTr_one rfl (unhide HC _ (unhide HN).1) (fun K hK => store_drawn rfl _ _ _ rfl nb _ _ _ rfl rfl (unhide HN).2.1 (by kernel_rfl) rfl (by simp [Value.oneCell']) (hK _ _ ?_))
              clear hK K
              refine wpTr_nil (unhide HC _ (unhide HN).2.2.1.bel) (hPP _ _ ?_)
              clear hPP PP
              go_wp2_with fail
              go_meet
              exact ⟨_, _, _, _, _, _, _, _, _, _, _, _, _, _, _, _, _, rfl, rfl, (unhide HN).2.2.1, (unhide HN).2.2.2⟩
            · go_simp
              rw [← unhide HXpf]
              refine hK _ _ ?_
              clear hK K
              refine wpTr_one rfl (unhide HC _ bXpf) (fun K hK => ?_)
              go_simp
              refine (unhide HCALL Xpf bXpf).mono ?_
              rintro e w2 ⟨_, rfl, ⟨e0, m0, o0, e1, m1, o1, e2, m2, o2, e3, m3, o3, e4, m4, o4, rfl, hP2⟩, b2⟩
              show K _ _
              refine hK _ _ ?_
              clear hK K
              iterate 3 (refine wpTr_take (v := ?_) rfl (by kernel_rfl) (fun w' hw => ?_) ?_; rotate_left; · (go_simp; try with_reducible rfl))
              have s1 : Xp.heap.size = X.heap.size + 1 := by rw [unhide HXp]; simp
              have s2 : Xpf.heap.size = Xp.heap.size + 1 := by rw [unhide HXpf]; simp
              have k0 : Xp.heap[X.heap.size]? = some pgZ := by rw [unhide HXp]; exact heap_alloc_new X _
              have k0 : Xpf.heap[X.heap.size]? = some pgZ := by rw [unhide HXpf, Below.heap_alloc _ _ _ (lt_hp k0)]; exact k0
              have k1 : Xpf.heap[Xp.heap.size]? = some ftZ := by rw [unhide HXpf]; exact heap_alloc_new Xp _
              have l0 := (b2.block _ (lt_hp k0)).trans k0
              have l1 := (b2.block _ (lt_hp k1)).trans k1
              have hV : Below X.heap.size X w2 := bXpf.trans (b2.mono bXpf.size)
              have hsV : w2.heap.size ≤ w2.heap.size := Nat.le_refl _
              have hoV : ∀ b, b < w2.heap.size → w2.heap[b]? = w2.heap[b]? := fun _ _ => rfl
              obtain ⟨c1, c2, hbx, hsz, hot⟩ := two_box (X := X) (V := w2) (p1 := X.heap.size) (p2 := Xp.heap.size) (c0 := .slice e0 m0 o0) (c1 := .slice e1 m1 o1) (c2 := .slice e2 m2 o2) (c3 := .slice e3 m3 o3) (c4 := .slice e4 m4 o4) (f0 := .int .i64 0) (f1 := .int .i64 0) l0 l1 (by omega) (by omega) hV
              have hPV := hP2.move (S' := fun _ => True) (by rw [hsz]; exact hsV) (fun b hl hb => (hot b (by omega) (by omega)).trans (hoV b hl)) (fun _ _ => trivial)
              have HV := hide (And.intro hV (And.intro l0 hsV))
              have HN := hide (And.intro c1 (And.intro c2 (And.intro hbx hPV)))
              clear c1 c2 hbx hsz hot hPV hV hsV hoV hP2 b2
              refine wpTr_one rfl (unhide HC _ (unhide HV).1) (fun K hK => store_drawn rfl _ _ _ rfl X.heap.size _ _ _ rfl rfl (unhide HV).2.1 (by kernel_rfl) rfl (by simp [Value.oneCell']) (hK _ _ ?_))
              clear hK K
              refine wpTr_one rfl (unhide HC _ (unhide HN).1) (fun K hK => store_drawn rfl _ _ _ rfl Xp.heap.size _ _ _ rfl rfl (unhide HN).2.1 (by kernel_rfl) rfl (by simp [Value.oneCell']) (hK _ _ ?_))
              clear hK K
              refine wpTr_nil (unhide HC _ (unhide HN).2.2.1.bel) (hPP _ _ ?_)
              clear hPP PP
              go_wp2_with fail
              go_meet
              exact ⟨_, _, _, _, _, _, _, _, _, _, _, _, _, _, _, _, _, rfl, rfl, (unhide HN).2.2.1, (unhide HN).2.2.2⟩
          · go_simp
            rw [← unhide HXf]
            refine hK _ _ ?_
            clear hK K
            refine wpTr_two rfl rfl (unhide HC _ bXf) (fun K hK => ?_) (fun K hK => ?_)
            · go_simp
              refine (unhide HCALL Xf bXf).mono ?_
              rintro e w2 ⟨_, rfl, ⟨e0, m0, o0, e1, m1, o1, e2, m2, o2, e3, m3, o3, e4, m4, o4, rfl, hP2⟩, b2⟩
              show K _ _
              refine hK _ _ ?_
              clear hK K
              iterate 3 (refine wpTr_take (v := ?_) rfl (by kernel_rfl) (fun w' hw => ?_) ?_; rotate_left; · (go_simp; try with_reducible rfl))
              have s1 : Xf.heap.size = X.heap.size + 1 := by rw [unhide HXf]; simp
              have k0 : Xf.heap[X.heap.size]? = some ftZ := by rw [unhide HXf]; exact heap_alloc_new X _
              have l0 := (b2.block _ (lt_hp k0)).trans k0
              have hs2 := b2.size
              obtain ⟨V, hVe⟩ : ∃ V, V = w2.alloc pgZ := ⟨_, rfl⟩
              have cV : Below w2.heap.size w2 V := by rw [hVe]; exact (Below.refl _ w2).alloc (Nat.le_refl _) _
              have l1 : V.heap[w2.heap.size]? = some pgZ := by rw [hVe]; exact heap_alloc_new w2 _
              have l0 := (cV.block _ (lt_hp l0)).trans l0
              have hV : Below X.heap.size X V := (bXf.trans (b2.mono bXf.size)).trans (cV.mono (bXf.trans (b2.mono bXf.size)).size)
              have hsV : w2.heap.size ≤ V.heap.size := cV.size
              have hoV : ∀ b, b < w2.heap.size → V.heap[b]? = w2.heap[b]? := fun b hb => cV.block b hb
              obtain ⟨nb, hnb⟩ : ∃ nb, nb = w2.heap.size := ⟨_, rfl⟩
              have hCW := bXf.trans (b2.mono bXf.size)
              have HCW := hide hCW
              have HVe := hide hVe
              have HNB := hide hnb
              rw [← hnb] at l1
              obtain ⟨c1, c2, hbx, hsz, hot⟩ := two_box (X := X) (V := V) (p1 := nb) (p2 := X.heap.size) (c0 := .slice e0 m0 o0) (c1 := .slice e1 m1 o1) (c2 := .slice e2 m2 o2) (c3 := .slice e3 m3 o3) (c4 := .slice e4 m4 o4) (f0 := .int .i64 0) (f1 := .int .i64 0) l1 l0 (by omega) (by omega) hV
              have hPV := hP2.move (S' := fun _ => True) (by rw [hsz]; exact hsV) (fun b hl hb => (hot b (by omega) (by omega)).trans (hoV b hl)) (fun _ _ => trivial)
              have HV := hide (And.intro hV (And.intro l1 hsV))
              have HN := hide (And.intro c1 (And.intro c2 (And.intro hbx hPV)))
              clear l0 l1 k0 cV hVe hnb hCW s1 hs2 c1 c2 hbx hsz hot hPV hV hsV hoV hP2 b2
              refine wpTr_one rfl (unhide HC _ (unhide HCW)) (fun K hK => ?_)
              go_simp
              rw [← unhide HVe, ← unhide HNB]
              refine hK _ _ ?_
              clear hK K
              refine wpTr_one rfl (unhide HC _ (unhide HV).1) (fun K hK => store_drawn rfl _ _ _ rfl nb _ _ _ rfl rfl (unhide HV).2.1 (by kernel_rfl) rfl (by simp [Value.oneCell']) (hK _ _ ?_))
              clear hK K
              refine wpTr_one rfl (unhide HC _ (unhide HN).1) (fun K hK => store_drawn rfl _ _ _ rfl X.heap.size _ _ _ rfl rfl (unhide HN).2.1 (by kernel_rfl) rfl (by simp [Value.oneCell']) (hK _ _ ?_))
              clear hK K
              refine wpTr_nil (unhide HC _ (unhide HN).2.2.1.bel) (hPP _ _ ?_)
              clear hPP PP
              go_wp2_with fail
              go_meet
              exact ⟨_, _, _, _, _, _, _, _, _, _, _, _, _, _, _, _, _, rfl, rfl, (unhide HN).2.2.1, (unhide HN).2.2.2⟩
            · go_simp
              rw [← unhide HXfp]
              refine hK _ _ ?_
              clear hK K
              refine wpTr_one rfl (unhide HC _ bXfp) (fun K hK => ?_)
              go_simp
              refine (unhide HCALL Xfp bXfp).mono ?_
              rintro e w2 ⟨_, rfl, ⟨e0, m0, o0, e1, m1, o1, e2, m2, o2, e3, m3, o3, e4, m4, o4, rfl, hP2⟩, b2⟩
              show K _ _
              refine hK _ _ ?_
              clear hK K
              iterate 3 (refine wpTr_take (v := ?_) rfl (by kernel_rfl) (fun w' hw => ?_) ?_; rotate_left; · (go_simp; try with_reducible rfl))
              have s1 : Xf.heap.size = X.heap.size + 1 := by rw [unhide HXf]; simp
              have s2 : Xfp.heap.size = Xf.heap.size + 1 := by rw [unhide HXfp]; simp
              have k0 : Xf.heap[X.heap.size]? = some ftZ := by rw [unhide HXf]; exact heap_alloc_new X _
              have k0 : Xfp.heap[X.heap.size]? = some ftZ := by rw [unhide HXfp, Below.heap_alloc _ _ _ (lt_hp k0)]; exact k0
              have k1 : Xfp.heap[Xf.heap.size]? = some pgZ := by rw [unhide HXfp]; exact heap_alloc_new Xf _
              have l0 := (b2.block _ (lt_hp k0)).trans k0
              have l1 := (b2.block _ (lt_hp k1)).trans k1
              have hV : Below X.heap.size X w2 := bXfp.trans (b2.mono bXfp.size)
              have hsV : w2.heap.size ≤ w2.heap.size := Nat.le_refl _
              have hoV : ∀ b, b < w2.heap.size → w2.heap[b]? = w2.heap[b]? := fun _ _ => rfl
              obtain ⟨c1, c2, hbx, hsz, hot⟩ := two_box (X := X) (V := w2) (p1 := Xf.heap.size) (p2 := X.heap.size) (c0 := .slice e0 m0 o0) (c1 := .slice e1 m1 o1) (c2 := .slice e2 m2 o2) (c3 := .slice e3 m3 o3) (c4 := .slice e4 m4 o4) (f0 := .int .i64 0) (f1 := .int .i64 0) l1 l0 (by omega) (by omega) hV
              have hPV := hP2.move (S' := fun _ => True) (by rw [hsz]; exact hsV) (fun b hl hb => (hot b (by omega) (by omega)).trans (hoV b hl)) (fun _ _ => trivial)
              have HV := hide (And.intro hV (And.intro l1 hsV))
              have HN := hide (And.intro c1 (And.intro c2 (And.intro hbx hPV)))
              clear c1 c2 hbx hsz hot hPV hV hsV hoV hP2 b2
              refine wpTr_one rfl (unhide HC _ (unhide HV).1) (fun K hK => store_drawn rfl _ _ _ rfl Xf.heap.size _ _ _ rfl rfl (unhide HV).2.1 (by kernel_rfl) rfl (by simp [Value.oneCell']) (hK _ _ ?_))
              clear hK K
              refine wpTr_one rfl (unhide HC _ (unhide HN).1) (fun K hK => store_drawn rfl _ _ _ rfl X.heap.size _ _ _ rfl rfl (unhide HN).2.1 (by kernel_rfl) rfl (by simp [Value.oneCell']) (hK _ _ ?_))
              clear hK K
              refine wpTr_nil (unhide HC _ (unhide HN).2.2.1.bel) (hPP _ _ ?_)
              clear hPP PP
              go_wp2_with fail
              go_meet
              exact ⟨_, _, _, _, _, _, _, _, _, _, _, _, _, _, _, _, _, rfl, rfl, (unhide HN).2.2.1, (unhide HN).2.2.2⟩
        case rest =>
          obtain ⟨p1, p2, e0, m0, o0, e1, m1, o1, e2, m2, o2, e3, m3, o3, e4, m4, o4, rfl, rfl, hbd, hPq⟩ := hcut
          obtain ⟨bX, pX, hPX⟩ := unhide HBX
          obtain ⟨x1, x2, x3⟩ := hbd
          have pC := (x3.block _ (lt_hp pX)).trans pX
          have hPC : PgS (fun _ => True) wc [.slice a0 n0 q0, .slice a1 n1 q1, .slice a2 n2 q2, .slice a3 n3 q3, .slice a4 n4 q4] p := hPX.move x3.size (fun b hl _ => x3.block b hl) (fun _ _ => trivial)
          have bC : Below w.heap.size w wc := bX.trans (x3.mono bX.size)
          have hcl := rsamePg_any p q (fun _ => True) wc _ _ _ _ _ _ _ _ _ _ hPC hPq
          rw [unhide HEQ] at hcl
          obtain ⟨u_0, u_1, u_2, u_3, u_4, uf⟩ := cl5 pC
          obtain ⟨v_0, v_1, v_2, v_3, v_4, vf⟩ := cl5 x1
          obtain ⟨z_0, z_1, zf⟩ := cl2 x2
          have HBC := hide bC
          clear bX pX hPX x1 x2 x3 pC hPC bC hPq HCALL HC HBX
          go_wp2_with fail
          refine hcl.mono ?_
          clear hcl u_0 u_1 u_2 u_3 u_4 uf v_0 v_1 v_2 v_3 v_4 vf z_0 z_1 zf
          rintro en w7 ⟨rfl, b7⟩
          have b8 := (unhide HBC).trans (b7.mono (unhide HBC).size)
          have hal := alive9_any w7 ((unhide HE).later b8)
          have HBW := hide b8
          clear b7 b8
          go_wp2_with fail
          refine hal.mono ?_
          clear hal
          rintro en w9 ⟨rfl, b9⟩
          have B9 := hide b9
          clear b9
          go_wp2_with fail
          go_ret
          exact ⟨rfl, (unhide HBW).trans ((unhide B9).mono (unhide HBW).size)⟩
end Go.Proofs.YtdjehbdpcdikkaaGreatDoor
