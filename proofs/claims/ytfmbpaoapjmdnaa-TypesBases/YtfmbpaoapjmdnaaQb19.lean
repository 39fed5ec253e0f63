/- The document's reader: lit. -/
import Derived.Test.YtfmbpaoapjmdnaaQb15
import Derived.Deep.Cut
import Derived.Deep.CutRange
set_option maxRecDepth 100000
set_option maxHeartbeats 32000000
namespace Go.Proofs.Ytfmbpaoapjmdnaa
section
open Go.RowKit Go.Maps
theorem Qnk {w : World} {b : Nat} {v0 v1 v2 v3 v4 v5 v6 v7 v8 v9 v10 v11 v12 v13 v14 v15 : Value} (h : w.heap[b]? = some (.cells #[v0, v1, v2, v3, v4, v5, v6, v7, v8, v9, v10, v11, v12, v13, v14, v15] 128 (0, 0))) : (ltLoad (.pointer (some ⟨b, 0, none⟩))).run Try.prog w = .ok (.agg #[v0, v1, v2, v3, v4, v5, v6, v7, v8, v9, v10, v11, v12, v13, v14, v15]) w :=
 run_loadAt_mid w b 0 128 [v0, v1, v2, v3, v4, v5, v6, v7, v8, v9, v10, v11, v12, v13, v14, v15] _ (fun q v hq => by rw [Qaf h, Nat.zero_add]; simpa using hq) Try.underlying128 rfl Qg
theorem Qkj {w : World} {b : Nat} {old new : Array Value} (hb : w.heap[b]? = some (.cells old 128 (0, 0))) (h0 : old.size = 16) (hn : new.size = 16) (h1 : new.all (·.oneCell') = true) : (ltStore (.pointer (some ⟨b, 0, none⟩)) (.agg new)).run Try.prog w = .ok () (w.setRow b new) := by
 unfold ltStore
 simp only [Instr.storeAt, Instr.sureAddr, Sem.run_bind, Sem.run_pure, Result.andThen_ok]
 exact run_storeVar_row w b 128 128 old new hb (by rw [hn]; kernel_rfl) (by rw [h0, hn]) h1
theorem Kp.row {rb b : Nat} {w w' : World} {cs : Array Value} (h : Kp rb w w') (hb : w.heap.size ≤ b) : Kp rb w (w'.setRow b cs) := ⟨h.os, h.tape, h.output, by rw [size_setRow]; exact h.size, fun q hq hn => (setRow_other _ _ _ _ (by omega)).trans (h.block q hq hn)⟩
theorem lsZ (S : Nat → Prop) (w : World) : LsAt PE 5 S w (.slice none 0 0) [] := ⟨none, 0, [], rfl, Nat.le_refl _, by unfold maxLen; omega, ⟨rfl, fun j x cs h1 h2 => by simp at h1⟩, fun h => absurd rfl h⟩
def ltV (w : World) (w' : World) (v : Value) : Prop := ∃ (x : Lt) (c0 c1 c2 c3 c4 c5 c6 c7 c8 c9 c10 c11 c12 c13 c14 c15 : Value), v = .agg #[c0, c1, c2, c3, c4, c5, c6, c7, c8, c9, c10, c11, c12, c13, c14, c15] ∧ PLt (fun b => w.heap.size ≤ b) w' [c0, c1, c2, c3, c4, c5, c6, c7, c8, c9, c10, c11, c12, c13, c14, c15] x
def LtI (rb g cap : Nat) (l : List Tok) (w : World) (d i a : Nat) (y : Int) (ne ns : Nat) (sg : List Txt) (t : Tok) (xl : Ex) (la : Option Addr) (ln lc : Nat) (ot : Txt) (wr : World) (aX : Nat) (yX fX : Int) : Prop := Rr rb g cap l wr aX d i yX fX ∧ Kp rb w wr ∧ wr.heap[ne]? = some (.cells #[.int .i64 3, .string ⟨#[]⟩, .slice none 0 0, .int .i64 0, str ot, .int .i64 xl.kind, .int .i64 xl.num, str xl.txt, .slice la ln lc, .int .i64 xl.at_, .int .i64 0, .int .i64 0, .string ⟨#[]⟩, .slice none 0 0, .int .i64 0, .int .i64 (t.at_ : Int)] 128 (0, 0)) ∧ wr.heap[w.heap.size]? = some (.cells #[.int .i64 0, .string ⟨#[]⟩, .slice none 0 0, .int .i64 0, .string ⟨#[]⟩, .int .i64 0, .int .i64 0, .string ⟨#[]⟩, .slice none 0 0, .int .i64 0, .int .i64 0, .int .i64 0, .string ⟨#[]⟩, .slice none 0 0, .int .i64 0, .int .i64 0] 128 (0, 0)) ∧ ExS (fun b => ne < b ∧ b < ns) wr [.int .i64 xl.kind, .int .i64 xl.num, str xl.txt, .slice la ln lc, .int .i64 xl.at_] xl ∧ (∀ (j : Nat) (t : Txt), sg[j]? = some t → wr.cell? ⟨ns, j, none⟩ = some (str t)) ∧ a ≤ aX ∧ (yX = 0 → y = 0 ∧ a < aX) ∧ (ot ≠ [] → yX = 0 ∧ aX + 1 < l.length)
theorem LtI.mk {rb g cap : Nat} {l : List Tok} {w : World} {d i a : Nat} {y : Int} {ne ns : Nat} {sg : List Txt} {t : Tok} {xl : Ex} {la : Option Addr} {ln lc : Nat} {ot : Txt} {wr w' : World} {aX : Nat} {yX fX : Int} (h : LtI rb g cap l w d i a y ne ns sg t xl la ln lc ot wr aX yX fX) (b : Below wr.heap.size wr w') : LtI rb g cap l w d i a y ne ns sg t xl la ln lc ot w' aX yX fX := by
 obtain ⟨h1, h2, h3, h4, h5, h6, h7⟩ := h
 refine ⟨h1.later b, h2.trans (Kp.of_below b), (b.block _ (Qab h3)).trans h3, (b.block _ (Qab h4)).trans h4, Qae.same _ _ _ _ _ h5 b.size (fun q _ hq => b.block q hq), fun j t hj => ?_, h7⟩
 have := h6 j t hj
 by_cases hl : ns < wr.heap.size
 · exact (b.cell (p := ⟨ns, j, none⟩) hl).trans this
 · rw [show wr.cell? ⟨ns, j, none⟩ = none by simp [World.cell?, Array.getElem?_eq_none (Nat.le_of_not_lt hl)]] at this; cases this
theorem LtI.set {rb g cap : Nat} {l : List Tok} {w : World} {d i a : Nat} {y : Int} {ne ns : Nat} {sg : List Txt} {t : Tok} {xl : Ex} {la : Option Addr} {ln lc : Nat} {ot : Txt} {wr : World} {aX : Nat} {yX fX : Int} (h : LtI rb g cap l w d i a y ne ns sg t xl la ln lc ot wr aX yX fX) (hn : ne < ns) (hr : rb < ne ∧ g < ne ∧ w.heap.size < ne) {st : Txt} (hs : yX = 0 ∧ aX + 1 < l.length) : LtI rb g cap l w d i a y ne ns sg t xl la ln lc st (wr.setCell ⟨ne, 4, none⟩ (str st)) aX yX fX := by
 obtain ⟨h1, h2, h3, h4, h5, h6, h7, h8, _⟩ := h
 have o : ∀ q, q ≠ ne → (wr.setCell ⟨ne, 4, none⟩ (str st)).heap[q]? = wr.heap[q]? := fun q hq => hpS hq
 refine ⟨h1.move (by simp) (o rb (by omega)) (o g (by omega)), h2.set2 (by omega), (Qah h3 4 _).trans rfl, (o _ (by omega)).trans h4, Qae.same _ _ _ _ _ h5 (by simp) (fun q hq _ => o q (by omega)), fun j t hj => ?_, h7, h8, fun _ => hs⟩
 have := h6 j t hj
 simp only [World.cell?] at this ⊢
 rw [o ns (by omega)]; exact this
attribute [local go_sem ↓] Qbj Qbv
theorem Qpy {rb g cap a d i : Nat} {l : List Tok} {w : World} {y f : Int} (h : Rr rb g cap l w a d i y f) (hd : d ≤ 63) :
  Calls Try.prog 93 #[.pointer (some ⟨rb, 0, none⟩)] w fun en w' => RA rb g cap l w d (ltV w) (CoY a i y) en w' := by
 have b0 : Below w.heap.size w (w.alloc (.cells #[.int .i64 0, .string ⟨#[]⟩, .slice none 0 0, .int .i64 0, .string ⟨#[]⟩, .int .i64 0, .int .i64 0, .string ⟨#[]⟩, .slice none 0 0, .int .i64 0, .int .i64 0, .int .i64 0, .string ⟨#[]⟩, .slice none 0 0, .int .i64 0, .int .i64 0] 128)) := (Below.refl _ w).alloc (Nat.le_refl _) _
 have n0 : (w.alloc (.cells #[.int .i64 0, .string ⟨#[]⟩, .slice none 0 0, .int .i64 0, .string ⟨#[]⟩, .int .i64 0, .int .i64 0, .string ⟨#[]⟩, .slice none 0 0, .int .i64 0, .int .i64 0, .int .i64 0, .string ⟨#[]⟩, .slice none 0 0, .int .i64 0, .int .i64 0] 128)).heap[w.heap.size]? = some (.cells #[.int .i64 0, .string ⟨#[]⟩, .slice none 0 0, .int .i64 0, .string ⟨#[]⟩, .int .i64 0, .int .i64 0, .string ⟨#[]⟩, .slice none 0 0, .int .i64 0, .int .i64 0, .int .i64 0, .string ⟨#[]⟩, .slice none 0 0, .int .i64 0, .int .i64 0] 128 (0, 0)) := heap_alloc_new w _
 have s0 : (w.alloc (.cells #[.int .i64 0, .string ⟨#[]⟩, .slice none 0 0, .int .i64 0, .string ⟨#[]⟩, .int .i64 0, .int .i64 0, .string ⟨#[]⟩, .slice none 0 0, .int .i64 0, .int .i64 0, .int .i64 0, .string ⟨#[]⟩, .slice none 0 0, .int .i64 0, .int .i64 0] 128)).heap.size = w.heap.size + 1 := by simp
 obtain ⟨t, ht⟩ := h.tok
 have hnw := Qak (h.later b0) ht
 unfold tkA at hnw
 have hrl := Qab h.box
 have hgl := h.row.lt
 have HH := hide h
 have HT := hide ht
 have HD := hide hd
 have H0 := hide (Ya b0 (Ya n0 s0))
 clear h ht hd b0 n0 s0
 go_enter Try.func93, Try.ntmps93
 go_wp2_with fail
 refine hnw.mono ?_
 clear hnw
 rintro en w1 ⟨rfl, b1⟩
 obtain ⟨b0, n0, s0⟩ := Qa H0
 obtain ⟨W3, hW3⟩ : ∃ W3, W3 = w1.alloc (.cells #[.int .i64 1, .string ⟨#[]⟩, .slice none 0 0, .int .i64 0, .string ⟨#[]⟩, .int .i64 0, .int .i64 0, .string ⟨#[]⟩, .slice none 0 0, .int .i64 0, .int .i64 0, .int .i64 0, .string ⟨#[]⟩, .slice none 0 0, .int .i64 0, .int .i64 (t.at_ : Int)] 128) := ⟨_, rfl⟩
 have hs1 := b1.size
 have b3 : Below w1.heap.size w1 W3 := by rw [hW3]; exact (Below.refl _ w1).alloc (Nat.le_refl _) _
 have m3 : W3.heap[w1.heap.size]? = some (.cells #[.int .i64 1, .string ⟨#[]⟩, .slice none 0 0, .int .i64 0, .string ⟨#[]⟩, .int .i64 0, .int .i64 0, .string ⟨#[]⟩, .slice none 0 0, .int .i64 0, .int .i64 0, .int .i64 0, .string ⟨#[]⟩, .slice none 0 0, .int .i64 0, .int .i64 (t.at_ : Int)] 128 (0, 0)) := by rw [hW3]; exact heap_alloc_new w1 _
 have z3 : W3.heap[w.heap.size]? = some (.cells #[.int .i64 0, .string ⟨#[]⟩, .slice none 0 0, .int .i64 0, .string ⟨#[]⟩, .int .i64 0, .int .i64 0, .string ⟨#[]⟩, .slice none 0 0, .int .i64 0, .int .i64 0, .int .i64 0, .string ⟨#[]⟩, .slice none 0 0, .int .i64 0, .int .i64 0] 128 (0, 0)) := ((b3.block _ (by omega)).trans (b1.block _ (by omega))).trans n0
 have bw3 : Below w.heap.size w W3 := (b0.trans (b1.mono (by omega))).trans (b3.mono (by omega))
 have S3 : (ltStore (.pointer (some ⟨w1.heap.size, 0, none⟩)) (.agg #[.int .i64 1, .string ⟨#[]⟩, .slice none 0 0, .int .i64 0, .string ⟨#[]⟩, .int .i64 0, .int .i64 0, .string ⟨#[]⟩, .slice none 0 0, .int .i64 0, .int .i64 0, .int .i64 0, .string ⟨#[]⟩, .slice none 0 0, .int .i64 0, .int .i64 (t.at_ : Int)])).run Try.prog (w1.alloc (.cells #[.int .i64 0, .string ⟨#[]⟩, .slice none 0 0, .int .i64 0, .string ⟨#[]⟩, .int .i64 0, .int .i64 0, .string ⟨#[]⟩, .slice none 0 0, .int .i64 0, .int .i64 0, .int .i64 0, .string ⟨#[]⟩, .slice none 0 0, .int .i64 0, .int .i64 0] 128)) = .ok () W3 := by rw [hW3]; exact run_storeAt_new w1 128 _ _ Qg rfl (by simp [Value.oneCell'])
 obtain ⟨ne, hne⟩ : ∃ ne, w1.heap.size = ne := ⟨_, rfl⟩
 have hmy := Qb ((Qa HH).later bw3) ⟨#[33]⟩
 rw [hne] at m3
 have H3 := hide (Ya (Kp.of_below (rb := rb) bw3) (Ya m3 z3))
 have HN := hide (show rb < w.heap.size ∧ g < w.heap.size ∧ w.heap.size < ne by omega)
 have HW := hide hne
 clear b0 n0 s0 b1 hW3 hs1 b3 m3 z3 bw3 hne H0
 go_wp2_with fail
 rename_i hK
 refine hK _ _ ?_
 clear hK
 go_wp2_with fail
 rw [Qa HW]
 clear S3
 refine hmy.mono ?_
 clear hmy
 rintro en w4 ⟨b, a4, f4, rfl, hb1, hb0, h4, k4⟩
 have hm4 := Qa HN
 have HA4 := hide (show a ≤ a4 by
  cases b with
  | true => have := (hb1 rfl).2; omega
  | false => have := hb0 rfl; omega)
 have m4 := k4.keep (Qa H3).2.1 (by omega)
 have H4 := hide (Ya h4 (Ya ((Qa H3).1.trans k4) (Ya m4 (Ya (k4.keep (Qa H3).2.2 (by omega)) (Qab m4)))))
 clear hb1 hb0 h4 k4 hm4 m4 H3
 cases b
 ·
  obtain ⟨u, hu⟩ := (Qa H4).1.tok
  have HU := hide hu
  clear hu
  go_upto_region 6 with fail
  go_cut [32] from 17 to 32 (fun c wc => ∃ b : Bool, c = .bool b ∧ Hid (Rr rb g cap l wc a4 d i y f4 ∧ Kp rb w wc ∧ wc.heap[ne]? = some (.cells #[.int .i64 1, .string ⟨#[]⟩, .slice none 0 0, .int .i64 0, .string ⟨#[]⟩, .int .i64 0, .int .i64 0, .string ⟨#[]⟩, .slice none 0 0, .int .i64 0, .int .i64 0, .int .i64 0, .string ⟨#[]⟩, .slice none 0 0, .int .i64 0, .int .i64 (t.at_ : Int)] 128 (0, 0)) ∧ wc.heap[w.heap.size]? = some (.cells #[.int .i64 0, .string ⟨#[]⟩, .slice none 0 0, .int .i64 0, .string ⟨#[]⟩, .int .i64 0, .int .i64 0, .string ⟨#[]⟩, .slice none 0 0, .int .i64 0, .int .i64 0, .int .i64 0, .string ⟨#[]⟩, .slice none 0 0, .int .i64 0, .int .i64 0] 128 (0, 0)) ∧ ne < wc.heap.size))
  case first =>
   have hcl := Qak (Qa H4).1 (Qa HU)
   unfold tkA at hcl
   go_wp2_with fail
   refine hcl.mono ?_
   clear hcl
   rintro en w5 ⟨rfl, b5⟩
   have hm5 := Qa HN
   have m5 := (Kp.of_below (rb := rb) b5).keep (Qa H4).2.2.1 (by omega)
   have H5 := hide (Ya ((Qa H4).1.later b5) (Ya ((Qa H4).2.1.trans (Kp.of_below b5)) (Ya m5 (Ya ((Kp.of_below (rb := rb) b5).keep (Qa H4).2.2.2.1 (by omega)) (Qab m5)))))
   clear b5 hm5 m5
   by_cases ku : u.kind = 1
   ·
    have gu : (u.kind == 1) = true := beq_iff_eq.2 ku
    clear ku
    obtain ⟨v, hv⟩ : ∃ v, l[min (a4 + 1) (l.length - 1)]? = some v := ⟨l[min (a4 + 1) (l.length - 1)]'(by have := (Qa H4).1.lt; omega), List.getElem?_eq_getElem _⟩
    have HV := hide hv
    clear hv
    go_wp2_with fail
    rename_i hK
    refine hK _ _ ?_
    clear hK
    have hcl := Qbs (Qa H5).1 (Qa HV)
    unfold tkA at hcl
    go_wp2_with fail
    refine hcl.mono ?_
    clear hcl
    rintro en w7 ⟨rfl, b7⟩
    have hm7 := Qa HN
    have m7 := (Kp.of_below (rb := rb) b7).keep (Qa H5).2.2.1 (by omega)
    have H7 := hide (Ya ((Qa H5).1.later b7) (Ya ((Qa H5).2.1.trans (Kp.of_below b7)) (Ya m7 (Ya ((Kp.of_below (rb := rb) b7).keep (Qa H5).2.2.2.1 (by omega)) (Qab m7)))))
    clear b7 hm7 m7
    by_cases kv : v.kind = 4
    ·
     have gv : (v.kind == 4) = true := beq_iff_eq.2 kv
     clear kv
     go_wp2_with fail
     rename_i hK
     refine hK _ _ ?_
     clear hK
     have hcl := Qbs (Qa H7).1 (Qa HV)
     unfold tkA at hcl
     go_wp2_with fail
     refine hcl.mono ?_
     clear hcl
     rintro en w8 ⟨rfl, b8⟩
     have hm8 := Qa HN
     have m8 := (Kp.of_below (rb := rb) b8).keep (Qa H7).2.2.1 (by omega)
     have H8 := hide (Ya ((Qa H7).1.later b8) (Ya ((Qa H7).2.1.trans (Kp.of_below b8)) (Ya m8 (Ya ((Kp.of_below (rb := rb) b8).keep (Qa H7).2.2.2.1 (by omega)) (Qab m8)))))
     clear b8 hm8 m8
     by_cases kt : v.text = [40]
     ·
      have gt : (v.text == [40]) = true := by simpa using kt
      clear kt
      go_wp2_with fail
      rename_i hK
      refine hK _ _ ?_
      clear hK
      go_wp2_with fail
      go_meet
      exact ⟨true, rfl, H8⟩
     have gt : (v.text == [40]) = false := by simpa using kt
     clear kt
     go_wp2_with fail
     rename_i hK
     refine hK _ _ ?_
     clear hK
     go_wp2_with fail
     go_meet
     exact ⟨false, rfl, H8⟩
    have gv : (v.kind == 4) = false := beq_eq_false_iff_ne.2 kv
    clear kv
    go_wp2_with fail
    rename_i hK
    refine hK _ _ ?_
    clear hK
    go_wp2_with fail
    go_meet
    exact ⟨false, rfl, H7⟩
   have gu : (u.kind == 1) = false := beq_eq_false_iff_ne.2 ku
   clear ku
   go_wp2_with fail
   rename_i hK
   refine hK _ _ ?_
   clear hK
   go_wp2_with fail
   go_meet
   exact ⟨false, rfl, H5⟩
  obtain ⟨b, rfl, H5⟩ := hcut
  obtain ⟨w5, hw5⟩ : ∃ w5, w5 = wc := ⟨_, rfl⟩
  subst hw5
  clear H4
  cases b
  ·
   have hm7 := Qa HN
   obtain ⟨h7, kw7, m7, z7, hlm⟩ := Qa H5
   obtain ⟨x_0, x_1, x_2, x_3, x_4, x_5, x_6, x_7, x_8, x_9, x_10, x_11, x_12, x_13, x_14, x_15, xf⟩ := cl16 m7
   obtain ⟨WB, hWB⟩ : ∃ WB, WB = (w5.setCell ⟨ne, 0, none⟩ (.int .i64 3)) := ⟨_, rfl⟩
   have mB : WB.heap[ne]? = some (.cells #[.int .i64 3, .string ⟨#[]⟩, .slice none 0 0, .int .i64 0, .string ⟨#[]⟩, .int .i64 0, .int .i64 0, .string ⟨#[]⟩, .slice none 0 0, .int .i64 0, .int .i64 0, .int .i64 0, .string ⟨#[]⟩, .slice none 0 0, .int .i64 0, .int .i64 (t.at_ : Int)] 128 (0, 0)) := by rw [hWB]; exact (Qah m7 0 _).trans rfl
   have oB : ∀ q, q ≠ ne → WB.heap[q]? = w5.heap[q]? := fun q hq => by rw [hWB, hpS hq]
   have sB : WB.heap.size = w5.heap.size := by rw [hWB]; simp
   have hBr := h7.move (w' := WB) (by omega) (oB rb (by omega)) (oB g (by omega))
   have kB : Kp rb w WB := ⟨by rw [hWB]; exact kw7.os, by rw [hWB]; exact kw7.tape, by rw [hWB]; exact kw7.output, by rw [sB]; exact kw7.size, fun q hq hn => (oB q (by omega)).trans (kw7.block q hq hn)⟩
   have hcl := Qnw (Qa HD) WB a4 i y f4 hBr
   have HB8 := hide (Ya kB (Ya mB (Ya ((oB _ (by omega)).trans z7) (show ne < WB.heap.size by omega))))
   have HWB := hide hWB
   clear h7 kw7 m7 z7 hlm hm7 hWB mB oB sB hBr kB
   go_wp2_with fail
   rw [← Qa HWB]
   clear HWB x_0 x_1 x_2 x_3 x_4 x_5 x_6 x_7 x_8 x_9 x_10 x_11 x_12 x_13 x_14 x_15 xf
   refine hcl.mono ?_
   clear hcl
   rintro en w9 ⟨_, a9, i9, y9, f9, rfl, ⟨xl, _, rfl, ⟨la, ln, lc, rfl⟩, hxl⟩, ⟨ei, ha9, hy9⟩, h9, k9⟩
   rw [ei] at h9
   clear ei
   obtain ⟨kB, mB, zB, hlB⟩ := Qa HB8
   have hm9 := Qa HN
   have hs9 := k9.size
   have m9 := k9.keep mB (by omega)
   have z9 := k9.keep zB (by omega)
   obtain ⟨x_0, x_1, x_2, x_3, x_4, x_5, x_6, x_7, x_8, x_9, x_10, x_11, x_12, x_13, x_14, x_15, xf⟩ := cl16 m9
   obtain ⟨WC, hWC⟩ : ∃ WC, WC = (((((w9.setCell ⟨ne, 5, none⟩ (.int .i64 xl.kind)).setCell ⟨ne, 6, none⟩ (.int .i64 xl.num)).setCell ⟨ne, 7, none⟩ (str xl.txt)).setCell ⟨ne, 8, none⟩ (.slice la ln lc)).setCell ⟨ne, 9, none⟩ (.int .i64 xl.at_)) := ⟨_, rfl⟩
   have mC : WC.heap[ne]? = some (.cells #[.int .i64 3, .string ⟨#[]⟩, .slice none 0 0, .int .i64 0, .string ⟨#[]⟩, .int .i64 xl.kind, .int .i64 xl.num, str xl.txt, .slice la ln lc, .int .i64 xl.at_, .int .i64 0, .int .i64 0, .string ⟨#[]⟩, .slice none 0 0, .int .i64 0, .int .i64 (t.at_ : Int)] 128 (0, 0)) := by rw [hWC]; exact (Qah (Qah (Qah (Qah (Qah m9 5 _) 6 _) 7 _) 8 _) 9 _).trans rfl
   have oC : ∀ q, q ≠ ne → WC.heap[q]? = w9.heap[q]? := fun q hq => by rw [hWC, hpS hq, hpS hq, hpS hq, hpS hq, hpS hq]
   have sC : WC.heap.size = w9.heap.size := by rw [hWC]; simp
   obtain ⟨ns, hns⟩ : ∃ ns, WC.heap.size = ns := ⟨_, rfl⟩
   obtain ⟨WD, hWD⟩ : ∃ WD, WD = WC.alloc (.cells #[.string ⟨#[61]⟩, .string ⟨#[33, 61]⟩, .string ⟨#[60]⟩, .string ⟨#[60, 61]⟩, .string ⟨#[62]⟩, .string ⟨#[62, 61]⟩] 9) := ⟨_, rfl⟩
   have bD : Below WC.heap.size WC WD := by rw [hWD]; exact (Below.refl _ WC).alloc (Nat.le_refl _) _
   have gD : WD.heap[ns]? = some (.cells #[.string ⟨#[61]⟩, .string ⟨#[33, 61]⟩, .string ⟨#[60]⟩, .string ⟨#[60, 61]⟩, .string ⟨#[62]⟩, .string ⟨#[62, 61]⟩] 9) := by rw [hWD, ← hns]; exact heap_alloc_new WC _
   have sD : WD.heap.size = ns + 1 := by rw [hWD, ← hns]; simp
   have hCr := h9.move (w' := WC) (by omega) (oC rb (by omega)) (oC g (by omega))
   have kw9 := kB.trans k9
   have kC : Kp rb w WC := ⟨by rw [hWC]; exact kw9.os, by rw [hWC]; exact kw9.tape, by rw [hWC]; exact kw9.output, by rw [sC]; exact kw9.size, fun q hq hn => (oC q (by omega)).trans (kw9.block q hq hn)⟩
   have hxC : ExS (fun b => ne < b ∧ b < ns) WD [.int .i64 xl.kind, .int .i64 xl.num, str xl.txt, .slice la ln lc, .int .i64 xl.at_] xl := Qae.mono _ _ _ _ _ (Qae.same _ _ WD _ _ (Qae.mono _ (fun b => WB.heap.size ≤ b ∧ b < w9.heap.size) _ _ _ hxl (fun b hl hb => ⟨hb, hl⟩)) (by omega) (fun q hq hl => (bD.block q (by omega)).trans (oC q (by omega)))) (fun b _ hb => ⟨by omega, by omega⟩)
   have zC := (bD.block _ (by omega)).trans ((oC _ (by omega)).trans z9)
   have mD := (bD.block _ (by omega)).trans mC
   obtain ⟨sg, hsg⟩ : ∃ sg : List Txt, sg = [[61], [33, 61], [60], [60, 61], [62], [62, 61]] := ⟨_, rfl⟩
   have q1 : ∀ (j : Nat) (t : Txt), sg[j]? = some t → WD.cell? ⟨ns, j, none⟩ = some (str t) := fun j t hj => by
    rw [Qaf gD]
    rw [hsg] at hj
    match j, hj with
    | 0, hj => cases hj; rfl
    | 1, hj => cases hj; rfl
    | 2, hj => cases hj; rfl
    | 3, hj => cases hj; rfl
    | 4, hj => cases hj; rfl
    | 5, hj => cases hj; rfl
    | j + 6, hj => simp at hj
   have HSG := hide (show sg.length = 6 by rw [hsg]; rfl)
   have HST : Hid (LtI rb g cap l w d i a y ne ns sg t xl la ln lc [] WD a9 y9 f9) := ⟨hCr.later bD, kC.trans (Kp.of_below bD), mD, zC, hxC, q1, by have := Qa HA4; omega, fun e => ⟨(hy9 e).1, by have := (hy9 e).2; have := Qa HA4; omega⟩, fun e => absurd rfl e⟩
   have HNS := hide (show ne < ns by omega)
   have HWC := hide hWC
   have HWD := hide (Ya hWD (sC.symm.trans hns))
   clear kB mB zB hlB hm9 hs9 m9 z9 hWC mC oC sC hns hWD bD gD sD hCr kw9 kC hxC zC mD hsg q1 hxl ha9 hy9 h9 k9
   go_wp2_with fail
   rw [← Qa HWC, ← (Qa HWD).1, (Qa HWD).2]
   clear HWC HWD x_0 x_1 x_2 x_3 x_4 x_5 x_6 x_7 x_8 x_9 x_10 x_11 x_12 x_13 x_14 x_15 xf HB8
   go_loopw [5, 43] (fun _ v43 wr => ∃ (ot : Txt) (j : Nat), v43 = .int .i64 (j : Int) ∧ j ≤ 6 ∧ Hid (LtI rb g cap l w d i a y ne ns sg t xl la ln lc ot wr a9 y9 f9)) (fun _ v43 _ => 6 - (intOf v43).toNat)
   case atStart => exact ⟨[], 0, rfl, Nat.zero_le _, HST⟩
   obtain ⟨ot, j, rfl, hj, HI⟩ := hrel
   clear HST
   by_cases hlt : j < 6
   ·
    obtain ⟨st, hst⟩ : ∃ st, sg[j]? = some st := ⟨sg[j]'(by rw [Qa HSG]; exact hlt), List.getElem?_eq_getElem _⟩
    have c1 := (Qa HI).2.2.2.2.2.1 j st hst
    have hsn := Qby (Qa HI).1 ⟨st.toArray⟩
    rw [show (Value.string ⟨st.toArray⟩) = str st from rfl] at hsn
    clear hst
    go_wp2_with fail
    refine hsn.mono ?_
    clear hsn
    rintro en w10 ⟨b, rfl, hb, b10⟩
    have HI4 := hide ((Qa HI).mk b10)
    have HB := hide hb
    clear hb b10 c1 HI
    cases b
    ·
     go_wp2_with fail
     go_roundw
     case rel => exact ⟨ot, j + 1, by go_num, by omega, HI4⟩
     case measure => simp [intOf]; omega
    obtain ⟨x_0, x_1, x_2, x_3, x_4, x_5, x_6, x_7, x_8, x_9, x_10, x_11, x_12, x_13, x_14, x_15, xf⟩ := cl16 (Qa HI4).2.2.1
    go_wp2_with fail
    go_roundw
    case rel => exact ⟨st, j + 1, by go_num, by omega, hide ((Qa HI4).set (Qa HNS) (by have := Qa HN; omega) (Qa HB (by trivial)))⟩
    case measure => simp [intOf]; omega
   obtain ⟨x_0, x_1, x_2, x_3, x_4, x_5, x_6, x_7, x_8, x_9, x_10, x_11, x_12, x_13, x_14, x_15, xf⟩ := cl16 (Qa HI).2.2.1
   obtain ⟨ob, go1⟩ : ∃ ob, (ot == []) = ob := ⟨_, rfl⟩
   go_upto_if 55 with fail
   go_cut [] from 53 to 57 (fun wc => ∃ yS fS : Int, Hid (Rr rb g cap l wc a9 d i yS fS ∧ Kp rb w wc ∧ wc.heap[ne]? = some (.cells #[.int .i64 3, .string ⟨#[]⟩, .slice none 0 0, .int .i64 0, str ot, .int .i64 xl.kind, .int .i64 xl.num, str xl.txt, .slice la ln lc, .int .i64 xl.at_, .int .i64 0, .int .i64 0, .string ⟨#[]⟩, .slice none 0 0, .int .i64 0, .int .i64 (t.at_ : Int)] 128 (0, 0)) ∧ wc.heap[w.heap.size]? = some (.cells #[.int .i64 0, .string ⟨#[]⟩, .slice none 0 0, .int .i64 0, .string ⟨#[]⟩, .int .i64 0, .int .i64 0, .string ⟨#[]⟩, .slice none 0 0, .int .i64 0, .int .i64 0, .int .i64 0, .string ⟨#[]⟩, .slice none 0 0, .int .i64 0, .int .i64 0] 128 (0, 0)) ∧ ExS (fun b => ne < b ∧ b < ns) wc [.int .i64 xl.kind, .int .i64 xl.num, str xl.txt, .slice la ln lc, .int .i64 xl.at_] xl ∧ a ≤ a9 ∧ (yS = 0 → y = 0 ∧ a < a9)))
   case first =>
    cases ob
    ·
     obtain ⟨hI1, hI2, hI3, hI4, hI5, hI6, hI7, hI8, hI9⟩ := Qa HI
     have HS := hide (Ya hI1 (Ya hI2 (Ya hI3 (Ya hI4 (Ya hI5 (Ya hI7 hI8))))))
     clear hI1 hI2 hI3 hI4 hI5 hI6 hI7 hI8 hI9
     go_wp2_with fail
     go_meet
     exact ⟨_, _, HS⟩
    have hfl := Qax (Qa HI).1 (why := 10) (by decide)
    go_wp2_with fail
    clear x_0 x_1 x_2 x_3 x_4 x_5 x_6 x_7 x_8 x_9 x_10 x_11 x_12 x_13 x_14 x_15 xf
    refine hfl.mono ?_
    clear hfl
    rintro en w11 ⟨_, a11, i11, y11, f11, rfl, rfl, ⟨ea, ei, hY11⟩, h11, k11⟩
    rw [ea, ei] at h11
    clear ea ei
    have hm11 := Qa HN
    obtain ⟨hI1, hI2, hI3, hI4, hI5, hI6, hI7, hI8, hI9⟩ := Qa HI
    have HS := hide (Ya h11 (Ya (hI2.trans k11) (Ya (k11.keep hI3 (by omega)) (Ya (k11.keep hI4 (by omega)) (Ya (Qae.same _ _ w11 _ _ hI5 k11.size (fun q hq hl => k11.block q hl (by omega))) (Ya hI7 (show y11 = 0 → y = 0 ∧ a < a9 from fun e => absurd e hY11)))))))
    clear hm11 hI1 hI2 hI3 hI4 hI5 hI6 hI7 hI8 hI9 h11 k11 hY11
    go_wp2_with fail
    go_meet
    exact ⟨_, _, HS⟩
   obtain ⟨yS, fS, HS⟩ := hcut
   clear go1 HI x_0 x_1 x_2 x_3 x_4 x_5 x_6 x_7 x_8 x_9 x_10 x_11 x_12 x_13 x_14 x_15 xf
   obtain ⟨u2, hu2⟩ := (Qa HS).1.tok
   have htk := Qau (Qa HS).1 hu2
   clear hu2
   go_wp2_with fail
   refine htk.mono ?_
   clear htk
   rintro en w12 ⟨_, a12, i12, y12, f12, rfl, rfl, ⟨ei, ey, hY12⟩, h12, k12⟩
   rw [ei, ey] at h12
   clear ei ey
   have hm12 := Qa HN
   obtain ⟨hS1, hS2, hS3, hS4, hS5, hS6, hS7⟩ := Qa HS
   have m12 := k12.keep hS3 (by omega)
   have hs12 := k12.size
   have ha12 : a9 ≤ a12 := by rcases hY12 with ⟨_, _, e⟩ | ⟨e, _⟩ <;> omega
   have hx12 : ExS (fun b => ne < b ∧ b < ns) w12 [.int .i64 xl.kind, .int .i64 xl.num, str xl.txt, .slice la ln lc, .int .i64 xl.at_] xl := Qae.same _ _ _ _ _ hS5 hs12 (fun q hq hl => k12.block q hl (by omega))
   have hcl := Qnw (Qa HD) w12 a12 i yS f12 h12
   have H12 := hide (Ya (hS2.trans k12) (Ya m12 (Ya (k12.keep hS4 (by omega)) (Ya hx12 (Ya (show a ≤ a12 by omega) (Ya (show yS = 0 → y = 0 ∧ a < a12 from fun e => ⟨(hS7 e).1, by have := (hS7 e).2; omega⟩) (Qab m12)))))))
   clear hm12 hS1 hS2 hS3 hS4 hS5 hS6 hS7 m12 hs12 ha12 hx12 h12 k12 hY12
   go_wp2_with fail
   refine hcl.mono ?_
   clear hcl
   rintro en w13 ⟨_, a13, i13, y13, f13, rfl, ⟨xr, _, rfl, ⟨ra, rn, rc, rfl⟩, hxr⟩, ⟨ei, ha13, hy13⟩, hv, k13⟩
   rw [ei] at hv
   clear ei
   have hm13 := Qa HN
   obtain ⟨kq, mq, zq, hxq, haq, hyq, hlq⟩ := Qa H12
   have kv := kq.trans k13
   have mv := k13.keep mq (by omega)
   have zv := k13.keep zq (by omega)
   have hC : CoY a i y a13 i y13 := ⟨rfl, by omega, fun e => ⟨(hyq (hy13 e).1).1, by omega⟩⟩
   have HXL := hide (Ya (Qae.same _ _ w13 _ _ hxq k13.size (fun q hq hl => k13.block q hl (by omega))) (Ya hxr hlq))
   clear hm13 kq mq zq hxq haq hyq hlq hxr ha13 hy13 k13
   obtain ⟨x_0, x_1, x_2, x_3, x_4, x_5, x_6, x_7, x_8, x_9, x_10, x_11, x_12, x_13, x_14, x_15, xf⟩ := cl16 mv
   obtain ⟨WX, hWX⟩ : ∃ WX, WX = (((((w13.setCell ⟨ne, 10, none⟩ (.int .i64 xr.kind)).setCell ⟨ne, 11, none⟩ (.int .i64 xr.num)).setCell ⟨ne, 12, none⟩ (str xr.txt)).setCell ⟨ne, 13, none⟩ (.slice ra rn rc)).setCell ⟨ne, 14, none⟩ (.int .i64 xr.at_)) := ⟨_, rfl⟩
   have mX : WX.heap[ne]? = some (.cells #[.int .i64 3, .string ⟨#[]⟩, .slice none 0 0, .int .i64 0, str ot, .int .i64 xl.kind, .int .i64 xl.num, str xl.txt, .slice la ln lc, .int .i64 xl.at_, .int .i64 xr.kind, .int .i64 xr.num, str xr.txt, .slice ra rn rc, .int .i64 xr.at_, .int .i64 (t.at_ : Int)] 128 (0, 0)) := by rw [hWX]; exact (Qah (Qah (Qah (Qah (Qah mv 10 _) 11 _) 12 _) 13 _) 14 _).trans rfl
   have oX : ∀ q, q ≠ ne → WX.heap[q]? = w13.heap[q]? := fun q hq => by rw [hWX, hpS hq, hpS hq, hpS hq, hpS hq, hpS hq]
   have sX : WX.heap.size = w13.heap.size := by rw [hWX]; simp
   obtain ⟨e1, e2, e4⟩ := Qa HN
   have zX := (oX w.heap.size (by omega)).trans zv
   have L5 := Qnk mX
   have S5 := Qkj (new := #[.int .i64 3, .string ⟨#[]⟩, .slice none 0 0, .int .i64 0, str ot, .int .i64 xl.kind, .int .i64 xl.num, str xl.txt, .slice la ln lc, .int .i64 xl.at_, .int .i64 xr.kind, .int .i64 xr.num, str xr.txt, .slice ra rn rc, .int .i64 xr.at_, .int .i64 (t.at_ : Int)]) zX rfl rfl (by simp [Value.oneCell', str])
   obtain ⟨w6, hw6⟩ : ∃ w6, w6 = WX.setRow w.heap.size #[.int .i64 3, .string ⟨#[]⟩, .slice none 0 0, .int .i64 0, str ot, .int .i64 xl.kind, .int .i64 xl.num, str xl.txt, .slice la ln lc, .int .i64 xl.at_, .int .i64 xr.kind, .int .i64 xr.num, str xr.txt, .slice ra rn rc, .int .i64 xr.at_, .int .i64 (t.at_ : Int)] := ⟨_, rfl⟩
   rw [← hw6] at S5
   have o6 : ∀ q, q ≠ w.heap.size → w6.heap[q]? = WX.heap[q]? := fun q hq => by rw [hw6]; exact setRow_other _ _ _ _ hq
   have s6 : w6.heap.size = WX.heap.size := by rw [hw6, size_setRow]
   have z6 : w6.heap[w.heap.size]? = some (.cells #[.int .i64 3, .string ⟨#[]⟩, .slice none 0 0, .int .i64 0, str ot, .int .i64 xl.kind, .int .i64 xl.num, str xl.txt, .slice la ln lc, .int .i64 xl.at_, .int .i64 xr.kind, .int .i64 xr.num, str xr.txt, .slice ra rn rc, .int .i64 xr.at_, .int .i64 (t.at_ : Int)] 128 (0, 0)) := by rw [hw6]; exact setRow_heap _ _ _ _ _ _ zX
   have h6 := hv.move (w' := w6) (by omega) ((o6 rb (by omega)).trans (oX rb (by omega))) ((o6 g (by omega)).trans (oX g (by omega)))
   have kX : Kp rb w WX := by rw [hWX]; exact (((((kv.set2 (by omega)).set2 (by omega)).set2 (by omega)).set2 (by omega)).set2 (by omega))
   have k6 : Kp rb w w6 := by rw [hw6]; exact kX.row (Nat.le_refl _)
   have hx6 : PLt (fun b => w.heap.size ≤ b) w6 [.int .i64 3, .string ⟨#[]⟩, .slice none 0 0, .int .i64 0, str ot, .int .i64 xl.kind, .int .i64 xl.num, str xl.txt, .slice la ln lc, .int .i64 xl.at_, .int .i64 xr.kind, .int .i64 xr.num, str xr.txt, .slice ra rn rc, .int .i64 xr.at_, .int .i64 (t.at_ : Int)] (⟨3, .none, ot, xl, xr, t.at_⟩) := ⟨none, 0, 0, la, ln, lc, ra, rn, rc, rfl, lsZ _ _, Qae.mono _ _ _ _ _ (Qae.same _ _ w6 _ _ (Qa HXL).1 (by omega) (fun q hq _ => (o6 q (by omega)).trans (oX q (by omega)))) (fun b _ hb => by omega), Qae.mono _ _ _ _ _ (Qae.same _ _ w6 _ _ (Qa HXL).2.1 (by omega) (fun q hq _ => (o6 q (by have hq' : w12.heap.size ≤ q := hq; have := (Qa HXL).2.2; omega)).trans (oX q (by have hq' : w12.heap.size ≤ q := hq; have := (Qa HXL).2.2; omega)))) (fun b _ hb => by have hb' : w12.heap.size ≤ b := hb; have := (Qa HXL).2.2; omega)⟩
   have HF := hide (Ya h6 (Ya k6 (Ya z6 (Ya hx6 (hC)))))
   clear hv kv mv zv mX oX sX e1 e2 e4 zX hw6 o6 s6 z6 h6 kX k6 hx6 hC HXL
   subst hWX
   go_wp2_with fail
   obtain ⟨h6, k6, z6, hx6, hY6⟩ := Qa HF
   obtain ⟨z_0, z_1, z_2, z_3, z_4, z_5, z_6, z_7, z_8, z_9, z_10, z_11, z_12, z_13, z_14, z_15, zf⟩ := cl16 z6
   refine bodyPost_ret (v := .agg #[.int .i64 3, .string ⟨#[]⟩, .slice none 0 0, .int .i64 0, str ot, .int .i64 xl.kind, .int .i64 xl.num, str xl.txt, .slice la ln lc, .int .i64 xl.at_, .int .i64 xr.kind, .int .i64 xr.num, str xr.txt, .slice ra rn rc, .int .i64 xr.at_, .int .i64 (t.at_ : Int)]) (by simp [results, Try.results93, go_sem, z_0, z_1, z_2, z_3, z_4, z_5, z_6, z_7, z_8, z_9, z_10, z_11, z_12, z_13, z_14, z_15]) rfl ?_
   exact ⟨_, _, _, _, _, rfl, ⟨(⟨3, .none, ot, xl, xr, t.at_⟩), _, _, _, _, _, _, _, _, _, _, _, _, _, _, _, _, rfl, hx6⟩, hY6, h6, k6⟩
  have hm7 := Qa HN
  obtain ⟨h7, kw7, m7, z7, hlm⟩ := Qa H5
  obtain ⟨x_0, x_1, x_2, x_3, x_4, x_5, x_6, x_7, x_8, x_9, x_10, x_11, x_12, x_13, x_14, x_15, xf⟩ := cl16 m7
  obtain ⟨WB, hWB⟩ : ∃ WB, WB = w5 := ⟨_, rfl⟩
  have mB : WB.heap[ne]? = some (.cells #[.int .i64 1, .string ⟨#[]⟩, .slice none 0 0, .int .i64 0, .string ⟨#[]⟩, .int .i64 0, .int .i64 0, .string ⟨#[]⟩, .slice none 0 0, .int .i64 0, .int .i64 0, .int .i64 0, .string ⟨#[]⟩, .slice none 0 0, .int .i64 0, .int .i64 (t.at_ : Int)] 128 (0, 0)) := by rw [hWB]; exact m7
  have oB : ∀ q, q ≠ ne → WB.heap[q]? = w5.heap[q]? := fun q _ => by rw [hWB]
  have sB : WB.heap.size = w5.heap.size := by rw [hWB]
  have hBr := h7.move (w' := WB) (by omega) (oB rb (by omega)) (oB g (by omega))
  have kB : Kp rb w WB := ⟨by rw [hWB]; exact kw7.os, by rw [hWB]; exact kw7.tape, by rw [hWB]; exact kw7.output, by rw [sB]; exact kw7.size, fun q hq hn => (oB q (by omega)).trans (kw7.block q hq hn)⟩
  have hat := Qfv hBr (Qa HD)
  have HB8 := hide (Ya kB (Ya mB (Ya ((oB _ (by omega)).trans z7) (show ne < WB.heap.size by omega))))
  have HWB := hide hWB
  clear h7 kw7 m7 z7 hlm hm7 hWB mB oB sB hBr kB
  go_wp2_with fail
  rw [← Qa HWB]
  clear HWB x_0 x_1 x_2 x_3 x_4 x_5 x_6 x_7 x_8 x_9 x_10 x_11 x_12 x_13 x_14 x_15 xf
  refine hat.mono ?_
  clear hat
  rintro en w9 ⟨_, a9, i9, y9, f9, rfl, ⟨am, aa, an, ac, rfl, hks⟩, ⟨ei, ha9, hy9⟩, hv, k9⟩
  rw [ei] at hv
  clear ei
  obtain ⟨kB, mB, zB, hlB⟩ := Qa HB8
  have hm9 := Qa HN
  have kv := kB.trans k9
  have mv := k9.keep mB (by omega)
  have zv := k9.keep zB (by omega)
  have hC : CoY a i y a9 i y9 := ⟨rfl, by have := Qa HA4; omega, fun e => ⟨(hy9 e).1, by have := (hy9 e).2; have := Qa HA4; omega⟩⟩
  have HAM := hide (Ya hks hlB)
  clear kB mB zB hlB hm9 ha9 hy9 k9 hks
  obtain ⟨x_0, x_1, x_2, x_3, x_4, x_5, x_6, x_7, x_8, x_9, x_10, x_11, x_12, x_13, x_14, x_15, xf⟩ := cl16 mv
  obtain ⟨WX, hWX⟩ : ∃ WX, WX = (((w9.setCell ⟨ne, 1, none⟩ (str am.rel)).setCell ⟨ne, 2, none⟩ (.slice aa an ac)).setCell ⟨ne, 3, none⟩ (.int .i64 am.at_)) := ⟨_, rfl⟩
  have mX : WX.heap[ne]? = some (.cells #[.int .i64 1, str am.rel, .slice aa an ac, .int .i64 am.at_, .string ⟨#[]⟩, .int .i64 0, .int .i64 0, .string ⟨#[]⟩, .slice none 0 0, .int .i64 0, .int .i64 0, .int .i64 0, .string ⟨#[]⟩, .slice none 0 0, .int .i64 0, .int .i64 (t.at_ : Int)] 128 (0, 0)) := by rw [hWX]; exact (Qah (Qah (Qah mv 1 _) 2 _) 3 _).trans rfl
  have oX : ∀ q, q ≠ ne → WX.heap[q]? = w9.heap[q]? := fun q hq => by rw [hWX, hpS hq, hpS hq, hpS hq]
  have sX : WX.heap.size = w9.heap.size := by rw [hWX]; simp
  obtain ⟨e1, e2, e4⟩ := Qa HN
  have zX := (oX w.heap.size (by omega)).trans zv
  have L5 := Qnk mX
  have S5 := Qkj (new := #[.int .i64 1, str am.rel, .slice aa an ac, .int .i64 am.at_, .string ⟨#[]⟩, .int .i64 0, .int .i64 0, .string ⟨#[]⟩, .slice none 0 0, .int .i64 0, .int .i64 0, .int .i64 0, .string ⟨#[]⟩, .slice none 0 0, .int .i64 0, .int .i64 (t.at_ : Int)]) zX rfl rfl (by simp [Value.oneCell', str])
  obtain ⟨w6, hw6⟩ : ∃ w6, w6 = WX.setRow w.heap.size #[.int .i64 1, str am.rel, .slice aa an ac, .int .i64 am.at_, .string ⟨#[]⟩, .int .i64 0, .int .i64 0, .string ⟨#[]⟩, .slice none 0 0, .int .i64 0, .int .i64 0, .int .i64 0, .string ⟨#[]⟩, .slice none 0 0, .int .i64 0, .int .i64 (t.at_ : Int)] := ⟨_, rfl⟩
  rw [← hw6] at S5
  have o6 : ∀ q, q ≠ w.heap.size → w6.heap[q]? = WX.heap[q]? := fun q hq => by rw [hw6]; exact setRow_other _ _ _ _ hq
  have s6 : w6.heap.size = WX.heap.size := by rw [hw6, size_setRow]
  have z6 : w6.heap[w.heap.size]? = some (.cells #[.int .i64 1, str am.rel, .slice aa an ac, .int .i64 am.at_, .string ⟨#[]⟩, .int .i64 0, .int .i64 0, .string ⟨#[]⟩, .slice none 0 0, .int .i64 0, .int .i64 0, .int .i64 0, .string ⟨#[]⟩, .slice none 0 0, .int .i64 0, .int .i64 (t.at_ : Int)] 128 (0, 0)) := by rw [hw6]; exact setRow_heap _ _ _ _ _ _ zX
  have h6 := hv.move (w' := w6) (by omega) ((o6 rb (by omega)).trans (oX rb (by omega))) ((o6 g (by omega)).trans (oX g (by omega)))
  have kX : Kp rb w WX := by rw [hWX]; exact (((kv.set2 (by omega)).set2 (by omega)).set2 (by omega))
  have k6 : Kp rb w w6 := by rw [hw6]; exact kX.row (Nat.le_refl _)
  have hx6 : PLt (fun b => w.heap.size ≤ b) w6 [.int .i64 1, str am.rel, .slice aa an ac, .int .i64 am.at_, .string ⟨#[]⟩, .int .i64 0, .int .i64 0, .string ⟨#[]⟩, .slice none 0 0, .int .i64 0, .int .i64 0, .int .i64 0, .string ⟨#[]⟩, .slice none 0 0, .int .i64 0, .int .i64 (t.at_ : Int)] (⟨1, am, [], .none, .none, t.at_⟩) := ⟨aa, an, ac, none, 0, 0, none, 0, 0, rfl, ((Qa HAM).1.same Qae (by have := (Qa HAM).2; omega) (fun q hq _ => (o6 q (by have hq' : WB.heap.size ≤ q := hq; have := (Qa HAM).2; omega)).trans (oX q (by have hq' : WB.heap.size ≤ q := hq; have := (Qa HAM).2; omega)))).mono Qae (fun b _ hb => by have hb' : WB.heap.size ≤ b := hb; have := (Qa HAM).2; omega), Qdl _ _, Qdl _ _⟩
  have HF := hide (Ya h6 (Ya k6 (Ya z6 (Ya hx6 (hC)))))
  clear hv kv mv zv mX oX sX e1 e2 e4 zX hw6 o6 s6 z6 h6 kX k6 hx6 hC HAM
  subst hWX
  go_wp2_with fail
  obtain ⟨h6, k6, z6, hx6, hY6⟩ := Qa HF
  obtain ⟨z_0, z_1, z_2, z_3, z_4, z_5, z_6, z_7, z_8, z_9, z_10, z_11, z_12, z_13, z_14, z_15, zf⟩ := cl16 z6
  refine bodyPost_ret (v := .agg #[.int .i64 1, str am.rel, .slice aa an ac, .int .i64 am.at_, .string ⟨#[]⟩, .int .i64 0, .int .i64 0, .string ⟨#[]⟩, .slice none 0 0, .int .i64 0, .int .i64 0, .int .i64 0, .string ⟨#[]⟩, .slice none 0 0, .int .i64 0, .int .i64 (t.at_ : Int)]) (by simp [results, Try.results93, go_sem, z_0, z_1, z_2, z_3, z_4, z_5, z_6, z_7, z_8, z_9, z_10, z_11, z_12, z_13, z_14, z_15]) rfl ?_
  exact ⟨_, _, _, _, _, rfl, ⟨(⟨1, am, [], .none, .none, t.at_⟩), _, _, _, _, _, _, _, _, _, _, _, _, _, _, _, _, rfl, hx6⟩, hY6, h6, k6⟩
 have hm7 := Qa HN
 obtain ⟨h7, kw7, m7, z7, hlm⟩ := Qa H4
 obtain ⟨x_0, x_1, x_2, x_3, x_4, x_5, x_6, x_7, x_8, x_9, x_10, x_11, x_12, x_13, x_14, x_15, xf⟩ := cl16 m7
 obtain ⟨WB, hWB⟩ : ∃ WB, WB = (w4.setCell ⟨ne, 0, none⟩ (.int .i64 2)) := ⟨_, rfl⟩
 have mB : WB.heap[ne]? = some (.cells #[.int .i64 2, .string ⟨#[]⟩, .slice none 0 0, .int .i64 0, .string ⟨#[]⟩, .int .i64 0, .int .i64 0, .string ⟨#[]⟩, .slice none 0 0, .int .i64 0, .int .i64 0, .int .i64 0, .string ⟨#[]⟩, .slice none 0 0, .int .i64 0, .int .i64 (t.at_ : Int)] 128 (0, 0)) := by rw [hWB]; exact (Qah m7 0 _).trans rfl
 have oB : ∀ q, q ≠ ne → WB.heap[q]? = w4.heap[q]? := fun q hq => by rw [hWB, hpS hq]
 have sB : WB.heap.size = w4.heap.size := by rw [hWB]; simp
 have hBr := h7.move (w' := WB) (by omega) (oB rb (by omega)) (oB g (by omega))
 have kB : Kp rb w WB := ⟨by rw [hWB]; exact kw7.os, by rw [hWB]; exact kw7.tape, by rw [hWB]; exact kw7.output, by rw [sB]; exact kw7.size, fun q hq hn => (oB q (by omega)).trans (kw7.block q hq hn)⟩
 have hat := Qfv hBr (Qa HD)
 have HB8 := hide (Ya kB (Ya mB (Ya ((oB _ (by omega)).trans z7) (show ne < WB.heap.size by omega))))
 have HWB := hide hWB
 clear h7 kw7 m7 z7 hlm hm7 hWB mB oB sB hBr kB
 go_wp2_with fail
 rw [← Qa HWB]
 clear HWB x_0 x_1 x_2 x_3 x_4 x_5 x_6 x_7 x_8 x_9 x_10 x_11 x_12 x_13 x_14 x_15 xf
 refine hat.mono ?_
 clear hat
 rintro en w9 ⟨_, a9, i9, y9, f9, rfl, ⟨am, aa, an, ac, rfl, hks⟩, ⟨ei, ha9, hy9⟩, hv, k9⟩
 rw [ei] at hv
 clear ei
 obtain ⟨kB, mB, zB, hlB⟩ := Qa HB8
 have hm9 := Qa HN
 have kv := kB.trans k9
 have mv := k9.keep mB (by omega)
 have zv := k9.keep zB (by omega)
 have hC : CoY a i y a9 i y9 := ⟨rfl, by have := Qa HA4; omega, fun e => ⟨(hy9 e).1, by have := (hy9 e).2; have := Qa HA4; omega⟩⟩
 have HAM := hide (Ya hks hlB)
 clear kB mB zB hlB hm9 ha9 hy9 k9 hks
 obtain ⟨x_0, x_1, x_2, x_3, x_4, x_5, x_6, x_7, x_8, x_9, x_10, x_11, x_12, x_13, x_14, x_15, xf⟩ := cl16 mv
 obtain ⟨WX, hWX⟩ : ∃ WX, WX = (((w9.setCell ⟨ne, 1, none⟩ (str am.rel)).setCell ⟨ne, 2, none⟩ (.slice aa an ac)).setCell ⟨ne, 3, none⟩ (.int .i64 am.at_)) := ⟨_, rfl⟩
 have mX : WX.heap[ne]? = some (.cells #[.int .i64 2, str am.rel, .slice aa an ac, .int .i64 am.at_, .string ⟨#[]⟩, .int .i64 0, .int .i64 0, .string ⟨#[]⟩, .slice none 0 0, .int .i64 0, .int .i64 0, .int .i64 0, .string ⟨#[]⟩, .slice none 0 0, .int .i64 0, .int .i64 (t.at_ : Int)] 128 (0, 0)) := by rw [hWX]; exact (Qah (Qah (Qah mv 1 _) 2 _) 3 _).trans rfl
 have oX : ∀ q, q ≠ ne → WX.heap[q]? = w9.heap[q]? := fun q hq => by rw [hWX, hpS hq, hpS hq, hpS hq]
 have sX : WX.heap.size = w9.heap.size := by rw [hWX]; simp
 obtain ⟨e1, e2, e4⟩ := Qa HN
 have zX := (oX w.heap.size (by omega)).trans zv
 have L5 := Qnk mX
 have S5 := Qkj (new := #[.int .i64 2, str am.rel, .slice aa an ac, .int .i64 am.at_, .string ⟨#[]⟩, .int .i64 0, .int .i64 0, .string ⟨#[]⟩, .slice none 0 0, .int .i64 0, .int .i64 0, .int .i64 0, .string ⟨#[]⟩, .slice none 0 0, .int .i64 0, .int .i64 (t.at_ : Int)]) zX rfl rfl (by simp [Value.oneCell', str])
 obtain ⟨w6, hw6⟩ : ∃ w6, w6 = WX.setRow w.heap.size #[.int .i64 2, str am.rel, .slice aa an ac, .int .i64 am.at_, .string ⟨#[]⟩, .int .i64 0, .int .i64 0, .string ⟨#[]⟩, .slice none 0 0, .int .i64 0, .int .i64 0, .int .i64 0, .string ⟨#[]⟩, .slice none 0 0, .int .i64 0, .int .i64 (t.at_ : Int)] := ⟨_, rfl⟩
 rw [← hw6] at S5
 have o6 : ∀ q, q ≠ w.heap.size → w6.heap[q]? = WX.heap[q]? := fun q hq => by rw [hw6]; exact setRow_other _ _ _ _ hq
 have s6 : w6.heap.size = WX.heap.size := by rw [hw6, size_setRow]
 have z6 : w6.heap[w.heap.size]? = some (.cells #[.int .i64 2, str am.rel, .slice aa an ac, .int .i64 am.at_, .string ⟨#[]⟩, .int .i64 0, .int .i64 0, .string ⟨#[]⟩, .slice none 0 0, .int .i64 0, .int .i64 0, .int .i64 0, .string ⟨#[]⟩, .slice none 0 0, .int .i64 0, .int .i64 (t.at_ : Int)] 128 (0, 0)) := by rw [hw6]; exact setRow_heap _ _ _ _ _ _ zX
 have h6 := hv.move (w' := w6) (by omega) ((o6 rb (by omega)).trans (oX rb (by omega))) ((o6 g (by omega)).trans (oX g (by omega)))
 have kX : Kp rb w WX := by rw [hWX]; exact (((kv.set2 (by omega)).set2 (by omega)).set2 (by omega))
 have k6 : Kp rb w w6 := by rw [hw6]; exact kX.row (Nat.le_refl _)
 have hx6 : PLt (fun b => w.heap.size ≤ b) w6 [.int .i64 2, str am.rel, .slice aa an ac, .int .i64 am.at_, .string ⟨#[]⟩, .int .i64 0, .int .i64 0, .string ⟨#[]⟩, .slice none 0 0, .int .i64 0, .int .i64 0, .int .i64 0, .string ⟨#[]⟩, .slice none 0 0, .int .i64 0, .int .i64 (t.at_ : Int)] (⟨2, am, [], .none, .none, t.at_⟩) := ⟨aa, an, ac, none, 0, 0, none, 0, 0, rfl, ((Qa HAM).1.same Qae (by have := (Qa HAM).2; omega) (fun q hq _ => (o6 q (by have hq' : WB.heap.size ≤ q := hq; have := (Qa HAM).2; omega)).trans (oX q (by have hq' : WB.heap.size ≤ q := hq; have := (Qa HAM).2; omega)))).mono Qae (fun b _ hb => by have hb' : WB.heap.size ≤ b := hb; have := (Qa HAM).2; omega), Qdl _ _, Qdl _ _⟩
 have HF := hide (Ya h6 (Ya k6 (Ya z6 (Ya hx6 (hC)))))
 clear hv kv mv zv mX oX sX e1 e2 e4 zX hw6 o6 s6 z6 h6 kX k6 hx6 hC HAM
 subst hWX
 go_wp2_with fail
 obtain ⟨h6, k6, z6, hx6, hY6⟩ := Qa HF
 obtain ⟨z_0, z_1, z_2, z_3, z_4, z_5, z_6, z_7, z_8, z_9, z_10, z_11, z_12, z_13, z_14, z_15, zf⟩ := cl16 z6
 refine bodyPost_ret (v := .agg #[.int .i64 2, str am.rel, .slice aa an ac, .int .i64 am.at_, .string ⟨#[]⟩, .int .i64 0, .int .i64 0, .string ⟨#[]⟩, .slice none 0 0, .int .i64 0, .int .i64 0, .int .i64 0, .string ⟨#[]⟩, .slice none 0 0, .int .i64 0, .int .i64 (t.at_ : Int)]) (by simp [results, Try.results93, go_sem, z_0, z_1, z_2, z_3, z_4, z_5, z_6, z_7, z_8, z_9, z_10, z_11, z_12, z_13, z_14, z_15]) rfl ?_
 exact ⟨_, _, _, _, _, rfl, ⟨(⟨2, am, [], .none, .none, t.at_⟩), _, _, _, _, _, _, _, _, _, _, _, _, _, _, _, _, rfl, hx6⟩, hY6, h6, k6⟩
end
end Go.Proofs.Ytfmbpaoapjmdnaa
