/- The document's reader: decl. The document's reader by the tokens that are next: kind (a subtype), decl (without words behind it). -/
import Derived.Test.YtfmbpaoapjmdnaaQb15
import Derived.Test.YtfmbpaoapjmdnaaQb31
import Derived.Test.YtfmbpaoapjmdnaaQb32
set_option maxRecDepth 100000
set_option maxHeartbeats 32000000
namespace Go.Proofs.Ytfmbpaoapjmdnaa
section
open Go.RowKit Go.Maps
def dcV (w : World) (w' : World) (v : Value) : Prop := ∃ x : Dcl, VDc (fun b => w.heap.size ≤ b) w' v x
structure Dx (rb g cap : Nat) (l : List Tok) (w : World) (d i a : Nat) (y : Int) (xb : Nat) (T : TypeId) (zs : Array Value) (W : World) (cs : Array Value) (aX : Nat) (yX fX : Int) (sl : Value) (fs : List Fld) : Prop where
 r : Rr rb g cap l W aX d i yX fX
 b : Bx rb g w xb T zs cs W
 q : LsAt PF 2 (fun b => xb < b) W sl fs
 le : a ≤ aX
 y0 : yX = 0 → y = 0 ∧ a < aX
section
variable {rb g cap : Nat} {l : List Tok} {w : World} {d i a : Nat} {y : Int} {xb : Nat} {T : TypeId} {zs : Array Value} {W W' : World} {cs : Array Value} {aX a2 : Nat} {yX fX y2 f2 : Int} {sl : Value} {fs : List Fld}
theorem Dx.call (h : Dx rb g cap l w d i a y xb T zs W cs aX yX fX sl fs) (kk : Kp rb W W') (hR : Rr rb g cap l W' a2 d i y2 f2) (ha : aX ≤ a2) (hy : y2 = 0 → yX = 0) : Dx rb g cap l w d i a y xb T zs W' cs a2 y2 f2 sl fs :=
 ⟨hR, h.b.call kk, h.q.same Qaz kk.size (fun b hb hl => kk.block b hl (by have hb' : xb < b := hb; have := h.b.r1; have := h.b.x1; omega)), by have := h.le; omega, fun e => ⟨(h.y0 (hy e)).1, by have := (h.y0 (hy e)).2; omega⟩⟩
theorem Dx.set (h : Dx rb g cap l w d i a y xb T zs W cs aX yX fX sl fs) (j : Nat) (v : Value) : Dx rb g cap l w d i a y xb T zs (W.setCell ⟨xb, j, none⟩ v) (cs.setIfInBounds j v) aX yX fX sl fs :=
 ⟨h.r.atBox ⟨by have := h.b.r1; have := h.b.x1; omega, by have := h.b.g1; have := h.b.x1; omega⟩ j v, h.b.set j v, h.q.same Qaz (by simp) (fun b hb _ => hpS (by have hb' : xb < b := hb; show b ≠ xb; omega)), h.le, h.y0⟩
theorem Dx.fin (h : Dx rb g cap l w d i a y xb T zs W cs aX yX fX sl fs) (hs : W'.heap.size = W.heap.size) (ho : W'.os = W.os ∧ W'.tape = W.tape ∧ W'.output = W.output) (hb : ∀ q, q ≠ w.heap.size → W'.heap[q]? = W.heap[q]?) :
  Rr rb g cap l W' aX d i yX fX ∧ Kp rb w W' ∧ LsAt PF 2 (fun b => xb < b) W' sl fs := by
 have hx1 := h.b.x1
 have hr1 := h.b.r1
 have hg1 := h.b.g1
 exact ⟨h.r.move (by omega) (hb rb (by omega)) (hb g (by omega)), ⟨ho.1.trans h.b.kp.os, ho.2.1.trans h.b.kp.tape, ho.2.2.trans h.b.kp.output, by rw [hs]; exact h.b.kp.size, fun q hq hn => (hb q (by omega)).trans (h.b.kp.block q hq hn)⟩, h.q.same Qaz (by omega) (fun b hl _ => hb b (by have hb' : xb < b := hl; omega))⟩
end
theorem Qnx {rb g cap a d i : Nat} {l : List Tok} {w : World} {y f : Int} (h : Rr rb g cap l w a d i y f) (at0 : Int) :
  Calls Try.prog 53 #[.pointer (some ⟨rb, 0, none⟩), .int .i64 at0] w fun en w' => RA rb g cap l w d (dcV w) (CoY a i y) en w' := by
 have b0 : Below w.heap.size w (w.alloc (.cells #[.string ⟨#[]⟩, .slice none 0 0, .bool false, .bool false, .int .i64 0] 43)) := (Below.refl _ w).alloc (Nat.le_refl _) _
 have n0 : (w.alloc (.cells #[.string ⟨#[]⟩, .slice none 0 0, .bool false, .bool false, .int .i64 0] 43)).heap[w.heap.size]? = some (.cells #[.string ⟨#[]⟩, .slice none 0 0, .bool false, .bool false, .int .i64 0] 43 (0, 0)) := heap_alloc_new w _
 have s0 : (w.alloc (.cells #[.string ⟨#[]⟩, .slice none 0 0, .bool false, .bool false, .int .i64 0] 43)).heap.size = w.heap.size + 1 := by simp
 have hwd := Qbz (h.later b0)
 have HH := hide (Ya (Qab h.box) h.row.lt)
 have H0 := hide (Ya b0 (Ya n0 s0))
 clear h b0 n0 s0
 go_enter Try.func53, Try.ntmps53
 go_wp2_with fail
 refine hwd.mono ?_
 clear hwd
 rintro en w2 ⟨_, a2, i2, y2, f2, rfl, ⟨x2, rfl⟩, ⟨ei, ha2, hy2⟩, h2, k2⟩
 rw [ei] at h2
 clear ei
 obtain ⟨b0, n0, s0⟩ := Qa H0
 obtain ⟨g1, g2⟩ := Qa HH
 have hs2 := k2.size
 have n2 := k2.keep n0 (by omega)
 obtain ⟨xb, hxb⟩ : ∃ xb, w2.heap.size = xb := ⟨_, rfl⟩
 obtain ⟨w3, hw3⟩ : ∃ w3, w3 = w2.alloc (.cells #[str x2, .slice none 0 0, .bool false, .bool false, .int .i64 at0] 43) := ⟨_, rfl⟩
 have b3 : Below w2.heap.size w2 w3 := by rw [hw3]; exact (Below.refl _ w2).alloc (Nat.le_refl _) _
 have n3 : w3.heap[xb]? = some (.cells #[str x2, .slice none 0 0, .bool false, .bool false, .int .i64 at0] 43 (0, 0)) := by rw [hw3, ← hxb]; exact heap_alloc_new w2 _
 have s3 : w3.heap.size = xb + 1 := by rw [hw3, ← hxb]; simp
 have q3 := (b3.block _ (by omega)).trans n2
 have hfd := Qdz (h2.later b3) ⟨#[40]⟩ ⟨#[41]⟩
 have H3 := hide (Ya (show Bx rb g w xb 43 #[.string ⟨#[]⟩, .slice none 0 0, .bool false, .bool false, .int .i64 0] #[str x2, .slice none 0 0, .bool false, .bool false, .int .i64 at0] w3 from ⟨((Kp.of_below b0).trans k2).trans (Kp.of_below b3), n3, q3, g1, g2, by omega⟩) (Ya s3 (Ya ha2 hy2)))
 have HW3 := hide (Ya hw3 hxb)
 clear b0 n0 s0 g1 g2 hs2 n2 hxb hw3 b3 n3 s3 q3 ha2 hy2 h2 k2 H0
 go_wp2_with fail
 rw [← (Qa HW3).1, (Qa HW3).2]
 clear HW3
 refine hfd.mono ?_
 clear hfd
 rintro en w4 ⟨_, a5, i5, y5, f5, rfl, ⟨fs, hfs⟩, ⟨ei, ha5, hy5⟩, h5, k5⟩
 rw [ei] at h5
 clear ei
 obtain ⟨ka, kc, rfl⟩ := hfs.sl
 obtain ⟨B3, s3, ha2, hy2⟩ := Qa H3
 have B4 := B3.call k5
 obtain ⟨x_0, x_1, x_2, x_3, x_4, xf⟩ := cl5 B4.box
 obtain ⟨w5, hw5⟩ : ∃ w5, w5 = w4.setCell ⟨xb, 1, none⟩ (.slice ka fs.length kc) := ⟨_, rfl⟩
 have G5 : Hid (Dx rb g cap l w d i a y xb 43 #[.string ⟨#[]⟩, .slice none 0 0, .bool false, .bool false, .int .i64 0] w5 #[str x2, .slice ka fs.length kc, .bool false, .bool false, .int .i64 at0] a5 y5 f5 (.slice ka fs.length kc) fs) := by
  have d4 : Dx rb g cap l w d i a y xb 43 #[.string ⟨#[]⟩, .slice none 0 0, .bool false, .bool false, .int .i64 0] w4 #[str x2, .slice none 0 0, .bool false, .bool false, .int .i64 at0] a5 y5 f5 (.slice ka fs.length kc) fs := ⟨h5, B4, hfs.mono Qaz (fun b _ hb => by have hb' : w3.heap.size ≤ b := hb; omega), by omega, fun e => ⟨(hy2 (hy5 e).1).1, by have := (hy2 (hy5 e).1).2; omega⟩⟩
  rw [hw5]
  exact d4.set 1 _
 have HW5 := hide hw5
 clear hfs ha5 hy5 h5 k5 B3 s3 ha2 hy2 B4 hw5 H3
 go_wp2_with fail
 rw [← Qa HW5]
 clear HW5 x_0 x_1 x_2 x_3 x_4 xf
 go_loopw [13] (fun _ wr => ∃ (p1 p2 : Bool) (a1 : Nat) (y1 f1 : Int), Hid (Dx rb g cap l w d i a y xb 43 #[.string ⟨#[]⟩, .slice none 0 0, .bool false, .bool false, .int .i64 0] wr #[str x2, .slice ka fs.length kc, .bool p1, .bool p2, .int .i64 at0] a1 y1 f1 (.slice ka fs.length kc) fs)) (fun _ wr => leftR rb l.length wr)
 case atStart => exact ⟨false, false, a5, y5, f5, G5⟩
 obtain ⟨p1, p2, a1, y1, f1, HI⟩ := hrel
 clear G5
 have hwl := Qao (Qa HI).r
 by_cases hy : y1 = 0
 ·
  rw [decide_eq_true hy] at hwl
  have HY := hide hy
  clear hy
  obtain ⟨u, hu⟩ := (Qa HI).r.tok
  have HU := hide hu
  clear hu
  go_wp2_with fail
  refine hwl.mono ?_
  clear hwl
  rintro en wq ⟨rfl, rfl⟩
  have hcl := Qak (Qa HI).r (Qa HU)
  unfold tkA at hcl
  go_wp2_with fail
  refine hcl.mono ?_
  clear hcl
  rintro en w3 ⟨rfl, b3⟩
  have G3 := hide ((Qa HI).call (Kp.of_below b3) ((Qa HI).r.later b3) (Nat.le_refl _) (fun e => e))
  clear b3
  by_cases ku : u.kind = 1
  ·
   have gu : (u.kind == 1) = true := beq_iff_eq.2 ku
   have HK1 := hide ku
   clear ku
   go_wp2_with fail
   rename_i hK
   refine hK _ _ ?_
   clear hK
   have hcl := Qak (Qa G3).r (Qa HU)
   unfold tkA at hcl
   go_wp2_with fail
   refine hcl.mono ?_
   clear hcl
   rintro en w4 ⟨rfl, b4⟩
   have G4 := hide ((Qa G3).call (Kp.of_below b4) ((Qa G3).r.later b4) (Nat.le_refl _) (fun e => e))
   clear b4
   by_cases kx : u.text = [105, 110, 112, 117, 116]
   ·
    have gx : (u.text == [105, 110, 112, 117, 116]) = true := by simpa using kx
    clear kx
    obtain ⟨v, hv⟩ : ∃ v, l[min (a1 + 1) (l.length - 1)]? = some v := ⟨l[min (a1 + 1) (l.length - 1)]'(by have := (Qa HI).r.lt; omega), List.getElem?_eq_getElem _⟩
    have HV := hide hv
    clear hv
    go_wp2_with fail
    rename_i hK
    refine hK _ _ ?_
    clear hK
    have hcl := Qbs (Qa G4).r (Qa HV)
    unfold tkA at hcl
    go_wp2_with fail
    refine hcl.mono ?_
    clear hcl
    rintro en w7 ⟨rfl, b7⟩
    have G7 := hide ((Qa G4).call (Kp.of_below b7) ((Qa G4).r.later b7) (Nat.le_refl _) (fun e => e))
    clear b7
    by_cases kv : v.kind = 4
    ·
     have gv : (v.kind == 4) = true := beq_iff_eq.2 kv
     clear kv
     go_wp2_with fail
     rename_i hK
     refine hK _ _ ?_
     clear hK
     have hcl := Qbs (Qa G7).r (Qa HV)
     unfold tkA at hcl
     go_wp2_with fail
     refine hcl.mono ?_
     clear hcl
     rintro en w8 ⟨rfl, b8⟩
     have G8 := hide ((Qa G7).call (Kp.of_below b8) ((Qa G7).r.later b8) (Nat.le_refl _) (fun e => e))
     clear b8
     by_cases kt : v.text = [40]
     ·
      have gt : (v.text == [40]) = true := by simpa using kt
      clear kt
      go_wp2_with fail
      rename_i hK
      refine hK _ _ ?_
      clear hK
      have g9 := Qa G8
      obtain ⟨x_0, x_1, x_2, x_3, x_4, xf⟩ := cl5 g9.b.box
      obtain ⟨y_0, y_1, y_2, y_3, y_4, yf⟩ := cl5 g9.b.res
      have HF : Hid (∀ q0 q1 q2 q3 q4, RA rb g cap l w d (dcV w) (CoY a i y) (.returned (.agg #[str x2, .slice ka fs.length kc, .bool p1, .bool p2, .int .i64 at0])) (((((w8.setCell ⟨w.heap.size, 0, none⟩ q0).setCell ⟨w.heap.size, 1, none⟩ q1).setCell ⟨w.heap.size, 2, none⟩ q2).setCell ⟨w.heap.size, 3, none⟩ q3).setCell ⟨w.heap.size, 4, none⟩ q4)) := fun q0 q1 q2 q3 q4 => by
       obtain ⟨R9, K9, Q9⟩ := g9.fin (W' := (((((w8.setCell ⟨w.heap.size, 0, none⟩ q0).setCell ⟨w.heap.size, 1, none⟩ q1).setCell ⟨w.heap.size, 2, none⟩ q2).setCell ⟨w.heap.size, 3, none⟩ q3).setCell ⟨w.heap.size, 4, none⟩ q4)) (by simp [World.setCell]) ⟨rfl, rfl, rfl⟩ (fun q hq => by rw [hpS hq, hpS hq, hpS hq, hpS hq, hpS hq])
       have hx1 := g9.b.x1
       exact ⟨_, _, _, _, _, rfl, ⟨⟨x2, fs, p1, p2, at0⟩, _, _, _, rfl, Q9.mono Qaz (fun b _ hb => by have hb' : xb < b := hb; omega)⟩, ⟨rfl, g9.le, g9.y0⟩, R9, K9⟩
      clear g9
      go_wp2_with fail
      refine bodyPost_ret (v := .agg #[str x2, .slice ka fs.length kc, .bool p1, .bool p2, .int .i64 at0]) (by simp [results, Try.results53, go_sem, y_0, y_1, y_2, y_3, y_4]) rfl ?_
      exact Qa HF _ _ _ _ _
     have gt : (v.text == [40]) = false := by simpa using kt
     clear kt
     go_wp2_with fail
     rename_i hK
     refine hK _ _ ?_
     clear hK
     have htk := Qau (Qa G8).r (Qa HU)
     unfold tkA at htk
     go_wp2_with fail
     refine htk.mono ?_
     clear htk
     rintro en w9 ⟨_, a9, i9, y9, f9, rfl, rfl, ⟨ei, ey, hY9⟩, h9, k9⟩
     rw [ei, ey] at h9
     clear ei ey
     have e9 : a9 = a1 + 1 := by
      rcases hY9 with ⟨_, _, e⟩ | ⟨_, hn⟩
      · exact e
      · exact absurd ((Qa HI).r.more (Qa HU) (by have := Qa HK1; omega)) (hn (Qa HY))
     have g9 := (Qa G8).call k9 h9 (by omega) (fun e => e)
     obtain ⟨x_0, x_1, x_2, x_3, x_4, xf⟩ := cl5 g9.b.box
     have gz := g9.set 2 (.bool true)
     have hlf := Qai (Qa HI).r l.length
     have hlz := Qai gz.r l.length
     have HM := hide (Ya hlf (Ya hlz (Ya (Qa HI).r.lt (Ya gz.r.lt e9))))
     have HG := hide gz
     clear hY9 h9 k9 e9 g9 gz hlf hlz
     go_wp2_with fail
     rename_i hK
     refine hK _ _ ?_
     clear hK
     go_wp2_with fail
     go_roundw
     case rel => exact ⟨true, p2, a9, y1, f9, hide (Qa HG)⟩
     obtain ⟨hlf, hlz, m1, m2, e9⟩ := Qa HM
     rw [hlf, hlz, if_pos (Qa HY), if_pos (Qa HY)]
     omega
    have gv : (v.kind == 4) = false := beq_eq_false_iff_ne.2 kv
    clear kv
    go_wp2_with fail
    rename_i hK
    refine hK _ _ ?_
    clear hK
    have htk := Qau (Qa G7).r (Qa HU)
    unfold tkA at htk
    go_wp2_with fail
    refine htk.mono ?_
    clear htk
    rintro en w9 ⟨_, a9, i9, y9, f9, rfl, rfl, ⟨ei, ey, hY9⟩, h9, k9⟩
    rw [ei, ey] at h9
    clear ei ey
    have e9 : a9 = a1 + 1 := by
     rcases hY9 with ⟨_, _, e⟩ | ⟨_, hn⟩
     · exact e
     · exact absurd ((Qa HI).r.more (Qa HU) (by have := Qa HK1; omega)) (hn (Qa HY))
    have g9 := (Qa G7).call k9 h9 (by omega) (fun e => e)
    obtain ⟨x_0, x_1, x_2, x_3, x_4, xf⟩ := cl5 g9.b.box
    have gz := g9.set 2 (.bool true)
    have hlf := Qai (Qa HI).r l.length
    have hlz := Qai gz.r l.length
    have HM := hide (Ya hlf (Ya hlz (Ya (Qa HI).r.lt (Ya gz.r.lt e9))))
    have HG := hide gz
    clear hY9 h9 k9 e9 g9 gz hlf hlz
    go_wp2_with fail
    rename_i hK
    refine hK _ _ ?_
    clear hK
    go_wp2_with fail
    go_roundw
    case rel => exact ⟨true, p2, a9, y1, f9, hide (Qa HG)⟩
    obtain ⟨hlf, hlz, m1, m2, e9⟩ := Qa HM
    rw [hlf, hlz, if_pos (Qa HY), if_pos (Qa HY)]
    omega
   have gx : (u.text == [105, 110, 112, 117, 116]) = false := by simpa using kx
   clear kx
   go_wp2_with fail
   rename_i hK
   refine hK _ _ ?_
   clear hK
   have hcl := Qak (Qa G4).r (Qa HU)
   unfold tkA at hcl
   go_wp2_with fail
   refine hcl.mono ?_
   clear hcl
   rintro en w5 ⟨rfl, b5⟩
   have G5 := hide ((Qa G4).call (Kp.of_below b5) ((Qa G4).r.later b5) (Nat.le_refl _) (fun e => e))
   clear b5
   by_cases ko : u.text = [111, 117, 116, 112, 117, 116]
   ·
    have gO : (u.text == [111, 117, 116, 112, 117, 116]) = true := by simpa using ko
    clear ko
    obtain ⟨v, hv⟩ : ∃ v, l[min (a1 + 1) (l.length - 1)]? = some v := ⟨l[min (a1 + 1) (l.length - 1)]'(by have := (Qa HI).r.lt; omega), List.getElem?_eq_getElem _⟩
    have HV := hide hv
    clear hv
    go_wp2_with fail
    rename_i hK
    refine hK _ _ ?_
    clear hK
    have hcl := Qbs (Qa G5).r (Qa HV)
    unfold tkA at hcl
    go_wp2_with fail
    refine hcl.mono ?_
    clear hcl
    rintro en w7 ⟨rfl, b7⟩
    have G7 := hide ((Qa G5).call (Kp.of_below b7) ((Qa G5).r.later b7) (Nat.le_refl _) (fun e => e))
    clear b7
    by_cases kv : v.kind = 4
    ·
     have gv : (v.kind == 4) = true := beq_iff_eq.2 kv
     clear kv
     go_wp2_with fail
     rename_i hK
     refine hK _ _ ?_
     clear hK
     have hcl := Qbs (Qa G7).r (Qa HV)
     unfold tkA at hcl
     go_wp2_with fail
     refine hcl.mono ?_
     clear hcl
     rintro en w8 ⟨rfl, b8⟩
     have G8 := hide ((Qa G7).call (Kp.of_below b8) ((Qa G7).r.later b8) (Nat.le_refl _) (fun e => e))
     clear b8
     by_cases kt : v.text = [40]
     ·
      have gt : (v.text == [40]) = true := by simpa using kt
      clear kt
      go_wp2_with fail
      rename_i hK
      refine hK _ _ ?_
      clear hK
      have g9 := Qa G8
      obtain ⟨x_0, x_1, x_2, x_3, x_4, xf⟩ := cl5 g9.b.box
      obtain ⟨y_0, y_1, y_2, y_3, y_4, yf⟩ := cl5 g9.b.res
      have HF : Hid (∀ q0 q1 q2 q3 q4, RA rb g cap l w d (dcV w) (CoY a i y) (.returned (.agg #[str x2, .slice ka fs.length kc, .bool p1, .bool p2, .int .i64 at0])) (((((w8.setCell ⟨w.heap.size, 0, none⟩ q0).setCell ⟨w.heap.size, 1, none⟩ q1).setCell ⟨w.heap.size, 2, none⟩ q2).setCell ⟨w.heap.size, 3, none⟩ q3).setCell ⟨w.heap.size, 4, none⟩ q4)) := fun q0 q1 q2 q3 q4 => by
       obtain ⟨R9, K9, Q9⟩ := g9.fin (W' := (((((w8.setCell ⟨w.heap.size, 0, none⟩ q0).setCell ⟨w.heap.size, 1, none⟩ q1).setCell ⟨w.heap.size, 2, none⟩ q2).setCell ⟨w.heap.size, 3, none⟩ q3).setCell ⟨w.heap.size, 4, none⟩ q4)) (by simp [World.setCell]) ⟨rfl, rfl, rfl⟩ (fun q hq => by rw [hpS hq, hpS hq, hpS hq, hpS hq, hpS hq])
       have hx1 := g9.b.x1
       exact ⟨_, _, _, _, _, rfl, ⟨⟨x2, fs, p1, p2, at0⟩, _, _, _, rfl, Q9.mono Qaz (fun b _ hb => by have hb' : xb < b := hb; omega)⟩, ⟨rfl, g9.le, g9.y0⟩, R9, K9⟩
      clear g9
      go_wp2_with fail
      refine bodyPost_ret (v := .agg #[str x2, .slice ka fs.length kc, .bool p1, .bool p2, .int .i64 at0]) (by simp [results, Try.results53, go_sem, y_0, y_1, y_2, y_3, y_4]) rfl ?_
      exact Qa HF _ _ _ _ _
     have gt : (v.text == [40]) = false := by simpa using kt
     clear kt
     go_wp2_with fail
     rename_i hK
     refine hK _ _ ?_
     clear hK
     have htk := Qau (Qa G8).r (Qa HU)
     unfold tkA at htk
     go_wp2_with fail
     refine htk.mono ?_
     clear htk
     rintro en w9 ⟨_, a9, i9, y9, f9, rfl, rfl, ⟨ei, ey, hY9⟩, h9, k9⟩
     rw [ei, ey] at h9
     clear ei ey
     have e9 : a9 = a1 + 1 := by
      rcases hY9 with ⟨_, _, e⟩ | ⟨_, hn⟩
      · exact e
      · exact absurd ((Qa HI).r.more (Qa HU) (by have := Qa HK1; omega)) (hn (Qa HY))
     have g9 := (Qa G8).call k9 h9 (by omega) (fun e => e)
     obtain ⟨x_0, x_1, x_2, x_3, x_4, xf⟩ := cl5 g9.b.box
     have gz := g9.set 3 (.bool true)
     have hlf := Qai (Qa HI).r l.length
     have hlz := Qai gz.r l.length
     have HM := hide (Ya hlf (Ya hlz (Ya (Qa HI).r.lt (Ya gz.r.lt e9))))
     have HG := hide gz
     clear hY9 h9 k9 e9 g9 gz hlf hlz
     go_wp2_with fail
     rename_i hK
     refine hK _ _ ?_
     clear hK
     go_wp2_with fail
     go_roundw
     case rel => exact ⟨p1, true, a9, y1, f9, hide (Qa HG)⟩
     obtain ⟨hlf, hlz, m1, m2, e9⟩ := Qa HM
     rw [hlf, hlz, if_pos (Qa HY), if_pos (Qa HY)]
     omega
    have gv : (v.kind == 4) = false := beq_eq_false_iff_ne.2 kv
    clear kv
    go_wp2_with fail
    rename_i hK
    refine hK _ _ ?_
    clear hK
    have htk := Qau (Qa G7).r (Qa HU)
    unfold tkA at htk
    go_wp2_with fail
    refine htk.mono ?_
    clear htk
    rintro en w9 ⟨_, a9, i9, y9, f9, rfl, rfl, ⟨ei, ey, hY9⟩, h9, k9⟩
    rw [ei, ey] at h9
    clear ei ey
    have e9 : a9 = a1 + 1 := by
     rcases hY9 with ⟨_, _, e⟩ | ⟨_, hn⟩
     · exact e
     · exact absurd ((Qa HI).r.more (Qa HU) (by have := Qa HK1; omega)) (hn (Qa HY))
    have g9 := (Qa G7).call k9 h9 (by omega) (fun e => e)
    obtain ⟨x_0, x_1, x_2, x_3, x_4, xf⟩ := cl5 g9.b.box
    have gz := g9.set 3 (.bool true)
    have hlf := Qai (Qa HI).r l.length
    have hlz := Qai gz.r l.length
    have HM := hide (Ya hlf (Ya hlz (Ya (Qa HI).r.lt (Ya gz.r.lt e9))))
    have HG := hide gz
    clear hY9 h9 k9 e9 g9 gz hlf hlz
    go_wp2_with fail
    rename_i hK
    refine hK _ _ ?_
    clear hK
    go_wp2_with fail
    go_roundw
    case rel => exact ⟨p1, true, a9, y1, f9, hide (Qa HG)⟩
    obtain ⟨hlf, hlz, m1, m2, e9⟩ := Qa HM
    rw [hlf, hlz, if_pos (Qa HY), if_pos (Qa HY)]
    omega
   have gO : (u.text == [111, 117, 116, 112, 117, 116]) = false := by simpa using ko
   clear ko
   go_wp2_with fail
   rename_i hK
   refine hK _ _ ?_
   clear hK
   have g9 := Qa G5
   obtain ⟨x_0, x_1, x_2, x_3, x_4, xf⟩ := cl5 g9.b.box
   obtain ⟨y_0, y_1, y_2, y_3, y_4, yf⟩ := cl5 g9.b.res
   have HF : Hid (∀ q0 q1 q2 q3 q4, RA rb g cap l w d (dcV w) (CoY a i y) (.returned (.agg #[str x2, .slice ka fs.length kc, .bool p1, .bool p2, .int .i64 at0])) (((((w5.setCell ⟨w.heap.size, 0, none⟩ q0).setCell ⟨w.heap.size, 1, none⟩ q1).setCell ⟨w.heap.size, 2, none⟩ q2).setCell ⟨w.heap.size, 3, none⟩ q3).setCell ⟨w.heap.size, 4, none⟩ q4)) := fun q0 q1 q2 q3 q4 => by
    obtain ⟨R9, K9, Q9⟩ := g9.fin (W' := (((((w5.setCell ⟨w.heap.size, 0, none⟩ q0).setCell ⟨w.heap.size, 1, none⟩ q1).setCell ⟨w.heap.size, 2, none⟩ q2).setCell ⟨w.heap.size, 3, none⟩ q3).setCell ⟨w.heap.size, 4, none⟩ q4)) (by simp [World.setCell]) ⟨rfl, rfl, rfl⟩ (fun q hq => by rw [hpS hq, hpS hq, hpS hq, hpS hq, hpS hq])
    have hx1 := g9.b.x1
    exact ⟨_, _, _, _, _, rfl, ⟨⟨x2, fs, p1, p2, at0⟩, _, _, _, rfl, Q9.mono Qaz (fun b _ hb => by have hb' : xb < b := hb; omega)⟩, ⟨rfl, g9.le, g9.y0⟩, R9, K9⟩
   clear g9
   go_wp2_with fail
   refine bodyPost_ret (v := .agg #[str x2, .slice ka fs.length kc, .bool p1, .bool p2, .int .i64 at0]) (by simp [results, Try.results53, go_sem, y_0, y_1, y_2, y_3, y_4]) rfl ?_
   exact Qa HF _ _ _ _ _
  have gu : (u.kind == 1) = false := beq_eq_false_iff_ne.2 ku
  clear ku
  go_wp2_with fail
  rename_i hK
  refine hK _ _ ?_
  clear hK
  have g9 := Qa G3
  obtain ⟨x_0, x_1, x_2, x_3, x_4, xf⟩ := cl5 g9.b.box
  obtain ⟨y_0, y_1, y_2, y_3, y_4, yf⟩ := cl5 g9.b.res
  have HF : Hid (∀ q0 q1 q2 q3 q4, RA rb g cap l w d (dcV w) (CoY a i y) (.returned (.agg #[str x2, .slice ka fs.length kc, .bool p1, .bool p2, .int .i64 at0])) (((((w3.setCell ⟨w.heap.size, 0, none⟩ q0).setCell ⟨w.heap.size, 1, none⟩ q1).setCell ⟨w.heap.size, 2, none⟩ q2).setCell ⟨w.heap.size, 3, none⟩ q3).setCell ⟨w.heap.size, 4, none⟩ q4)) := fun q0 q1 q2 q3 q4 => by
   obtain ⟨R9, K9, Q9⟩ := g9.fin (W' := (((((w3.setCell ⟨w.heap.size, 0, none⟩ q0).setCell ⟨w.heap.size, 1, none⟩ q1).setCell ⟨w.heap.size, 2, none⟩ q2).setCell ⟨w.heap.size, 3, none⟩ q3).setCell ⟨w.heap.size, 4, none⟩ q4)) (by simp [World.setCell]) ⟨rfl, rfl, rfl⟩ (fun q hq => by rw [hpS hq, hpS hq, hpS hq, hpS hq, hpS hq])
   have hx1 := g9.b.x1
   exact ⟨_, _, _, _, _, rfl, ⟨⟨x2, fs, p1, p2, at0⟩, _, _, _, rfl, Q9.mono Qaz (fun b _ hb => by have hb' : xb < b := hb; omega)⟩, ⟨rfl, g9.le, g9.y0⟩, R9, K9⟩
  clear g9
  go_wp2_with fail
  refine bodyPost_ret (v := .agg #[str x2, .slice ka fs.length kc, .bool p1, .bool p2, .int .i64 at0]) (by simp [results, Try.results53, go_sem, y_0, y_1, y_2, y_3, y_4]) rfl ?_
  exact Qa HF _ _ _ _ _
 rw [decide_eq_false hy] at hwl
 clear hy
 go_wp2_with fail
 refine hwl.mono ?_
 clear hwl
 rintro en wq ⟨rfl, rfl⟩
 have g9 := Qa HI
 obtain ⟨x_0, x_1, x_2, x_3, x_4, xf⟩ := cl5 g9.b.box
 obtain ⟨y_0, y_1, y_2, y_3, y_4, yf⟩ := cl5 g9.b.res
 have HF : Hid (∀ q0 q1 q2 q3 q4, RA rb g cap l w d (dcV w) (CoY a i y) (.returned (.agg #[str x2, .slice ka fs.length kc, .bool p1, .bool p2, .int .i64 at0])) (((((wq.setCell ⟨w.heap.size, 0, none⟩ q0).setCell ⟨w.heap.size, 1, none⟩ q1).setCell ⟨w.heap.size, 2, none⟩ q2).setCell ⟨w.heap.size, 3, none⟩ q3).setCell ⟨w.heap.size, 4, none⟩ q4)) := fun q0 q1 q2 q3 q4 => by
  obtain ⟨R9, K9, Q9⟩ := g9.fin (W' := (((((wq.setCell ⟨w.heap.size, 0, none⟩ q0).setCell ⟨w.heap.size, 1, none⟩ q1).setCell ⟨w.heap.size, 2, none⟩ q2).setCell ⟨w.heap.size, 3, none⟩ q3).setCell ⟨w.heap.size, 4, none⟩ q4)) (by simp [World.setCell]) ⟨rfl, rfl, rfl⟩ (fun q hq => by rw [hpS hq, hpS hq, hpS hq, hpS hq, hpS hq])
  have hx1 := g9.b.x1
  exact ⟨_, _, _, _, _, rfl, ⟨⟨x2, fs, p1, p2, at0⟩, _, _, _, rfl, Q9.mono Qaz (fun b _ hb => by have hb' : xb < b := hb; omega)⟩, ⟨rfl, g9.le, g9.y0⟩, R9, K9⟩
 clear g9
 go_wp2_with fail
 refine bodyPost_ret (v := .agg #[str x2, .slice ka fs.length kc, .bool p1, .bool p2, .int .i64 at0]) (by simp [results, Try.results53, go_sem, y_0, y_1, y_2, y_3, y_4]) rfl ?_
 exact Qa HF _ _ _ _ _
end
section
open Go.RowKit Go.Maps
theorem Qpa {rb g cap a d i : Nat} {l : List Tok} {w : World} (h : Rr rb g cap l w a d i 0 0) (at0 : Int) {s t : Txt} (hw : wordP s = true) (hs : s ≠ [95]) {rest : List Tok} (hA : Nxt l a (nmR s :: sgQ [60, 58] :: nmR t :: rest)) :
  Calls Try.prog 52 #[.pointer (some ⟨rb, 0, none⟩), .int .i64 at0] w fun en w' => XB rb g cap l w d (fun w' v => ∃ x : Typ, VTy (fun b => w.heap.size ≤ b) w' v x ∧ eqTy x ⟨s, t, [], 0⟩ = true) rest i en w' := by
 have b0 : Below w.heap.size w (w.alloc (.cells #[.string ⟨#[]⟩, .string ⟨#[]⟩, .slice none 0 0, .int .i64 0] 68)) := (Below.refl _ w).alloc (Nat.le_refl _) _
 have n0 : (w.alloc (.cells #[.string ⟨#[]⟩, .string ⟨#[]⟩, .slice none 0 0, .int .i64 0] 68)).heap[w.heap.size]? = some (.cells #[.string ⟨#[]⟩, .string ⟨#[]⟩, .slice none 0 0, .int .i64 0] 68 (0, 0)) := heap_alloc_new w _
 have s0 : (w.alloc (.cells #[.string ⟨#[]⟩, .string ⟨#[]⟩, .slice none 0 0, .int .i64 0] 68)).heap.size = w.heap.size + 1 := by simp
 have hwd := Qen (h.later b0) hA hw hs
 have HH := hide (Ya (Qab h.box) h.row.lt)
 have H0 := hide (Ya b0 (Ya n0 s0))
 have HA := hide (Ya hA h.lt)
 clear h hA hw hs b0 n0 s0
 go_enter Try.func52, Try.ntmps52
 go_wp2_with fail
 refine hwd.mono ?_
 clear hwd
 rintro en w2 ⟨_, a2, rfl, rfl, h2, k2, n2x⟩
 have ha2 : a < a2 := Nxt.lt2 (Qa HA).1 n2x (Qa HA).2 (by simp)
 obtain ⟨b0, n0, s0⟩ := Qa H0
 obtain ⟨g1, g2⟩ := Qa HH
 have hs2 := k2.size
 have n2 := k2.keep n0 (by omega)
 obtain ⟨xb, hxb⟩ : ∃ xb, w2.heap.size = xb := ⟨_, rfl⟩
 obtain ⟨w3, hw3⟩ : ∃ w3, w3 = w2.alloc (.cells #[str s, .string ⟨#[]⟩, .slice none 0 0, .int .i64 at0] 68) := ⟨_, rfl⟩
 have b3 : Below w2.heap.size w2 w3 := by rw [hw3]; exact (Below.refl _ w2).alloc (Nat.le_refl _) _
 have n3 : w3.heap[xb]? = some (.cells #[str s, .string ⟨#[]⟩, .slice none 0 0, .int .i64 at0] 68 (0, 0)) := by rw [hw3, ← hxb]; exact heap_alloc_new w2 _
 have q3 := (b3.block _ (by omega)).trans n2
 have G3 : Hid (Gx PC 2 120 rb g cap l w d i a 0 xb 68 #[.string ⟨#[]⟩, .string ⟨#[]⟩, .slice none 0 0, .int .i64 0] (fun _ => True) w3 #[str s, .string ⟨#[]⟩, .slice none 0 0, .int .i64 at0] a2 0 0 (.slice none 0 0) []) := ⟨h2.later b3, ⟨((Kp.of_below b0).trans k2).trans (Kp.of_below b3), n3, q3, g1, g2, by omega⟩, trivial, Qo.nil _, Nat.le_of_lt ha2, fun _ => ⟨rfl, ha2⟩, Nat.zero_le _, fun _ => Nat.zero_le _⟩
 have hmy := Qcu (Qa G3).r n2x
 have HN2 := hide n2x
 have HW3 := hide (Ya hw3 hxb)
 clear b0 n0 s0 g1 g2 hs2 n2 hxb hw3 b3 n3 q3 ha2 n2x h2 k2 H0
 go_wp2_with fail
 rw [← (Qa HW3).1, (Qa HW3).2]
 clear HW3
 refine hmy.mono ?_
 clear hmy
 rintro en w4 ⟨_, a4, rfl, rfl, h4, k4, n4⟩
 have e4 : a2 ≤ a4 := Nat.le_of_lt (Nxt.lt2 (Qa HN2) n4 (Qa G3).r.lt (by simp))
 have G4 := hide ((Qa G3).call Qcd (EK.none _ _) k4 h4 e4 (fun e => e))
 have HN4 := hide n4
 clear h4 k4 n4 e4 G3 HN2
 have hnm := Qgi (Qa G4).r (Qa HN4)
 go_wp2_with fail
 refine hnm.mono ?_
 clear hnm
 rintro en w5 ⟨_, a5, rfl, rfl, h5, k5, n5⟩
 have ha5 : a4 ≤ a5 := Nat.le_of_lt (Nxt.lt2 (Qa HN4) n5 (Qa G4).r.lt (by simp))
 have g5 := (Qa G4).call Qcd (EK.none _ _) k5 h5 ha5 (fun e => e)
 obtain ⟨w6, hw6⟩ : ∃ w6, w6 = w5.setCell ⟨xb, 1, none⟩ (str t) := ⟨_, rfl⟩
 have g6 : Gx PC 2 120 rb g cap l w d i a 0 xb 68 #[.string ⟨#[]⟩, .string ⟨#[]⟩, .slice none 0 0, .int .i64 0] (fun _ => True) w6 #[str s, str t, .slice none 0 0, .int .i64 at0] a5 0 0 (.slice none 0 0) [] := by
  have hx1 := g5.b.x1
  rw [hw6]
  exact ⟨g5.r.atBox ⟨by have := g5.b.r1; omega, by have := g5.b.g1; omega⟩ 1 _, g5.b.set 1 _, trivial, Qo.nil _, g5.le, g5.y0, g5.n, g5.n0⟩
 obtain ⟨w_0, w_1, w_2, w_3, wf⟩ := cl4 g5.b.box
 obtain ⟨x_0, x_1, x_2, x_3, xf⟩ := cl4 g6.b.box
 obtain ⟨y_0, y_1, y_2, y_3, yf⟩ := cl4 g6.b.res
 have HF : Hid (∀ q0 q1 q2 q3, XB rb g cap l w d (fun w' v => ∃ x : Typ, VTy (fun b => w.heap.size ≤ b) w' v x ∧ eqTy x ⟨s, t, [], 0⟩ = true) rest i (.returned (.agg #[str s, str t, .slice none 0 0, .int .i64 at0])) ((((w6.setCell ⟨w.heap.size, 0, none⟩ q0).setCell ⟨w.heap.size, 1, none⟩ q1).setCell ⟨w.heap.size, 2, none⟩ q2).setCell ⟨w.heap.size, 3, none⟩ q3)) := fun q0 q1 q2 q3 => by
  obtain ⟨R9, K9, _, Q9⟩ := g6.fin Qcd (EK.none _ _) (W' := ((((w6.setCell ⟨w.heap.size, 0, none⟩ q0).setCell ⟨w.heap.size, 1, none⟩ q1).setCell ⟨w.heap.size, 2, none⟩ q2).setCell ⟨w.heap.size, 3, none⟩ q3)) (by simp [World.setCell]) ⟨rfl, rfl, rfl⟩ (fun q hq => by rw [hpS hq, hpS hq, hpS hq, hpS hq])
  have hx1 := g6.b.x1
  exact ⟨_, _, rfl, ⟨⟨s, t, [], at0⟩, ⟨_, _, _, rfl, (Q9.ls Qcd).mono Qcd (fun b _ hb => by have hb' : xb + 1 ≤ b := hb; omega)⟩, by simp [eqTy, eqL]⟩, R9, K9, n5⟩
 clear h5 k5 ha5 n5 g5 g6 w_0 w_2 w_3
 subst hw6
 go_wp2_with fail
 refine bodyPost_ret (v := .agg #[str s, str t, .slice none 0 0, .int .i64 at0]) (by simp [results, Try.results52, go_sem, y_0, y_1, y_2, y_3]) rfl ?_
 exact Qa HF _ _ _ _
def Fol2 (r : List Tok) : Prop := ∃ t0 r0, r = t0 :: r0 ∧ (t0.kind = 1 → t0.text ≠ [105, 110, 112, 117, 116] ∧ t0.text ≠ [111, 117, 116, 112, 117, 116])
theorem Qij : ∀ fs : List Fld, eqL eqFd fs fs = true
 | [] => rfl
 | f :: fs => by rw [Qdk, Qij fs]; simp [eqFd]
theorem Qii (s : Txt) (fs : List Fld) (p q : Int) : eqDc ⟨s, fs, false, false, p⟩ ⟨s, fs, false, false, q⟩ = true := by
 unfold eqDc
 simp [Qij]
theorem Qjz {rb g cap a d i : Nat} {l : List Tok} {w : World} (h : Rr rb g cap l w a d i 0 0) (at0 : Int) {s : Txt} (hw : wordP s = true) (hs : s ≠ [95]) {fs : List Fld} (hx : ∀ f ∈ fs, wordP f.name = true ∧ f.name ≠ [95]) (hm : fs.length ≤ 8) {rest : List Tok} (hA : Nxt l a (nmR s :: sgQ [40] :: (joinQ (fs.map fdQ) ++ sgQ [41] :: rest))) (hF : Fol2 rest) :
  Calls Try.prog 53 #[.pointer (some ⟨rb, 0, none⟩), .int .i64 at0] w fun en w' => XB rb g cap l w d (fun w' v => ∃ x : Dcl, VDc (fun b => w.heap.size ≤ b) w' v x ∧ eqDc x ⟨s, fs, false, false, 0⟩ = true) rest i en w' := by
 have b0 : Below w.heap.size w (w.alloc (.cells #[.string ⟨#[]⟩, .slice none 0 0, .bool false, .bool false, .int .i64 0] 43)) := (Below.refl _ w).alloc (Nat.le_refl _) _
 have n0 : (w.alloc (.cells #[.string ⟨#[]⟩, .slice none 0 0, .bool false, .bool false, .int .i64 0] 43)).heap[w.heap.size]? = some (.cells #[.string ⟨#[]⟩, .slice none 0 0, .bool false, .bool false, .int .i64 0] 43 (0, 0)) := heap_alloc_new w _
 have s0 : (w.alloc (.cells #[.string ⟨#[]⟩, .slice none 0 0, .bool false, .bool false, .int .i64 0] 43)).heap.size = w.heap.size + 1 := by simp
 have hwd := Qen (h.later b0) hA hw hs
 have HH := hide (Ya (Qab h.box) h.row.lt)
 have H0 := hide (Ya b0 (Ya n0 s0))
 have HA := hide (Ya hA h.lt)
 have HX := hide (Ya hx hm)
 clear h hA hw hs hx hm b0 n0 s0
 go_enter Try.func53, Try.ntmps53
 go_wp2_with fail
 refine hwd.mono ?_
 clear hwd
 rintro en w2 ⟨_, a2, rfl, rfl, h2, k2, n2x⟩
 have ha2 : a < a2 := Nxt.lt2 (Qa HA).1 n2x (Qa HA).2 (by simp)
 have HL2 := hide h2.lt
 obtain ⟨b0, n0, s0⟩ := Qa H0
 obtain ⟨g1, g2⟩ := Qa HH
 have hs2 := k2.size
 have n2 := k2.keep n0 (by omega)
 obtain ⟨xb, hxb⟩ : ∃ xb, w2.heap.size = xb := ⟨_, rfl⟩
 obtain ⟨w3, hw3⟩ : ∃ w3, w3 = w2.alloc (.cells #[str s, .slice none 0 0, .bool false, .bool false, .int .i64 at0] 43) := ⟨_, rfl⟩
 have b3 : Below w2.heap.size w2 w3 := by rw [hw3]; exact (Below.refl _ w2).alloc (Nat.le_refl _) _
 have n3 : w3.heap[xb]? = some (.cells #[str s, .slice none 0 0, .bool false, .bool false, .int .i64 at0] 43 (0, 0)) := by rw [hw3, ← hxb]; exact heap_alloc_new w2 _
 have s3 : w3.heap.size = xb + 1 := by rw [hw3, ← hxb]; simp
 have q3 := (b3.block _ (by omega)).trans n2
 have hfd := Qk (so := [40]) (se := [41]) (h2.later b3) (by decide) (Qa HX).1 (Qa HX).2 n2x
 have H3 := hide (Ya (show Bx rb g w xb 43 #[.string ⟨#[]⟩, .slice none 0 0, .bool false, .bool false, .int .i64 0] #[str s, .slice none 0 0, .bool false, .bool false, .int .i64 at0] w3 from ⟨((Kp.of_below b0).trans k2).trans (Kp.of_below b3), n3, q3, g1, g2, by omega⟩) (Ya s3 (Ya ha2 n2x)))
 have HW3 := hide (Ya hw3 hxb)
 clear b0 n0 s0 g1 g2 hs2 n2 hxb hw3 b3 n3 s3 q3 ha2 n2x h2 k2 H0
 go_wp2_with fail
 rw [← (Qa HW3).1, (Qa HW3).2]
 clear HW3
 refine hfd.mono ?_
 clear hfd
 rintro en w4 ⟨_, a5, rfl, hfs, h5, k5, n5⟩
 obtain ⟨ka, kc, rfl⟩ := hfs.sl
 obtain ⟨B3, s3, ha2, n2x⟩ := Qa H3
 have ha5 : a2 < a5 := Nxt.lt2 n2x n5 (Qa HL2) (by simp; omega)
 have HN5 := hide n5
 have B4 := B3.call k5
 obtain ⟨x_0, x_1, x_2, x_3, x_4, xf⟩ := cl5 B4.box
 obtain ⟨w5, hw5⟩ : ∃ w5, w5 = w4.setCell ⟨xb, 1, none⟩ (.slice ka fs.length kc) := ⟨_, rfl⟩
 have G5 : Hid (Dx rb g cap l w d i a 0 xb 43 #[.string ⟨#[]⟩, .slice none 0 0, .bool false, .bool false, .int .i64 0] w5 #[str s, .slice ka fs.length kc, .bool false, .bool false, .int .i64 at0] a5 0 0 (.slice ka fs.length kc) fs) := by
  have d4 : Dx rb g cap l w d i a 0 xb 43 #[.string ⟨#[]⟩, .slice none 0 0, .bool false, .bool false, .int .i64 0] w4 #[str s, .slice none 0 0, .bool false, .bool false, .int .i64 at0] a5 0 0 (.slice ka fs.length kc) fs := ⟨h5, B4, hfs.mono Qaz (fun b _ hb => by have hb' : w3.heap.size ≤ b := hb; omega), by omega, fun _ => ⟨rfl, by omega⟩⟩
  rw [hw5]
  exact d4.set 1 _
 have HW5 := hide hw5
 clear hfs ha5 n5 h5 k5 B3 s3 ha2 n2x B4 hw5 H3
 go_wp2_with fail
 rw [← Qa HW5]
 clear HW5 x_0 x_1 x_2 x_3 x_4 xf
 go_loopw [13] (fun _ wr => Hid (Dx rb g cap l w d i a 0 xb 43 #[.string ⟨#[]⟩, .slice none 0 0, .bool false, .bool false, .int .i64 0] wr #[str s, .slice ka fs.length kc, .bool false, .bool false, .int .i64 at0] a5 0 0 (.slice ka fs.length kc) fs)) (fun _ _ => 0)
 case atStart => exact G5
 have HI := hrel
 clear hrel G5
 have hwl := Qao (Qa HI).r
 rw [decide_eq_true rfl] at hwl
 obtain ⟨t0, r0, hr0, hF0⟩ := hF
 obtain ⟨u, hu, zu, _⟩ := (show Nxt l a5 (t0 :: r0) by rw [← hr0]; exact Qa HN5).at
 simp only [zk, Prod.mk.injEq] at zu
 have HU := hide hu
 clear hu hr0
 go_wp2_with fail
 refine hwl.mono ?_
 clear hwl
 rintro en wq ⟨rfl, rfl⟩
 have hcl := Qak (Qa HI).r (Qa HU)
 unfold tkA at hcl
 go_wp2_with fail
 refine hcl.mono ?_
 clear hcl
 rintro en w3 ⟨rfl, b3⟩
 have G3 := hide ((Qa HI).call (Kp.of_below b3) ((Qa HI).r.later b3) (Nat.le_refl _) (fun e => e))
 clear b3
 by_cases ku : u.kind = 1
 ·
  have gu : (u.kind == 1) = true := beq_iff_eq.2 ku
  obtain ⟨hF1, hF2⟩ := hF0 (by rw [← zu.1]; exact ku)
  have gx : (u.text == [105, 110, 112, 117, 116]) = false := by rw [zu.2.1]; simpa using hF1
  have gO : (u.text == [111, 117, 116, 112, 117, 116]) = false := by rw [zu.2.1]; simpa using hF2
  clear ku zu hF0 hF1 hF2
  go_wp2_with fail
  rename_i hK
  refine hK _ _ ?_
  clear hK
  have hcl := Qak (Qa G3).r (Qa HU)
  unfold tkA at hcl
  go_wp2_with fail
  refine hcl.mono ?_
  clear hcl
  rintro en w4 ⟨rfl, b4⟩
  have G4 := hide ((Qa G3).call (Kp.of_below b4) ((Qa G3).r.later b4) (Nat.le_refl _) (fun e => e))
  clear b4
  go_wp2_with fail
  rename_i hK
  refine hK _ _ ?_
  clear hK
  have hcl := Qak (Qa G4).r (Qa HU)
  unfold tkA at hcl
  go_wp2_with fail
  refine hcl.mono ?_
  clear hcl
  rintro en w5 ⟨rfl, b5⟩
  have G5 := hide ((Qa G4).call (Kp.of_below b5) ((Qa G4).r.later b5) (Nat.le_refl _) (fun e => e))
  clear b5
  go_wp2_with fail
  rename_i hK
  refine hK _ _ ?_
  clear hK
  have g9 := Qa G5
  obtain ⟨x_0, x_1, x_2, x_3, x_4, xf⟩ := cl5 g9.b.box
  obtain ⟨y_0, y_1, y_2, y_3, y_4, yf⟩ := cl5 g9.b.res
  have HF : Hid (∀ q0 q1 q2 q3 q4, XB rb g cap l w d (fun w' v => ∃ x : Dcl, VDc (fun b => w.heap.size ≤ b) w' v x ∧ eqDc x ⟨s, fs, false, false, 0⟩ = true) rest i (.returned (.agg #[str s, .slice ka fs.length kc, .bool false, .bool false, .int .i64 at0])) (((((w5.setCell ⟨w.heap.size, 0, none⟩ q0).setCell ⟨w.heap.size, 1, none⟩ q1).setCell ⟨w.heap.size, 2, none⟩ q2).setCell ⟨w.heap.size, 3, none⟩ q3).setCell ⟨w.heap.size, 4, none⟩ q4)) := fun q0 q1 q2 q3 q4 => by
   obtain ⟨R9, K9, Q9⟩ := g9.fin (W' := (((((w5.setCell ⟨w.heap.size, 0, none⟩ q0).setCell ⟨w.heap.size, 1, none⟩ q1).setCell ⟨w.heap.size, 2, none⟩ q2).setCell ⟨w.heap.size, 3, none⟩ q3).setCell ⟨w.heap.size, 4, none⟩ q4)) (by simp [World.setCell]) ⟨rfl, rfl, rfl⟩ (fun q hq => by rw [hpS hq, hpS hq, hpS hq, hpS hq, hpS hq])
   have hx1 := g9.b.x1
   exact ⟨_, _, rfl, ⟨⟨s, fs, false, false, at0⟩, ⟨_, _, _, rfl, Q9.mono Qaz (fun b _ hb => by have hb' : xb < b := hb; omega)⟩, Qii _ _ _ _⟩, R9, K9, Qa HN5⟩
  clear g9
  go_wp2_with fail
  refine bodyPost_ret (v := .agg #[str s, .slice ka fs.length kc, .bool false, .bool false, .int .i64 at0]) (by simp [results, Try.results53, go_sem, y_0, y_1, y_2, y_3, y_4]) rfl ?_
  exact Qa HF _ _ _ _ _
 have gu : (u.kind == 1) = false := beq_eq_false_iff_ne.2 ku
 clear ku zu hF0
 go_wp2_with fail
 rename_i hK
 refine hK _ _ ?_
 clear hK
 have g9 := Qa G3
 obtain ⟨x_0, x_1, x_2, x_3, x_4, xf⟩ := cl5 g9.b.box
 obtain ⟨y_0, y_1, y_2, y_3, y_4, yf⟩ := cl5 g9.b.res
 have HF : Hid (∀ q0 q1 q2 q3 q4, XB rb g cap l w d (fun w' v => ∃ x : Dcl, VDc (fun b => w.heap.size ≤ b) w' v x ∧ eqDc x ⟨s, fs, false, false, 0⟩ = true) rest i (.returned (.agg #[str s, .slice ka fs.length kc, .bool false, .bool false, .int .i64 at0])) (((((w3.setCell ⟨w.heap.size, 0, none⟩ q0).setCell ⟨w.heap.size, 1, none⟩ q1).setCell ⟨w.heap.size, 2, none⟩ q2).setCell ⟨w.heap.size, 3, none⟩ q3).setCell ⟨w.heap.size, 4, none⟩ q4)) := fun q0 q1 q2 q3 q4 => by
  obtain ⟨R9, K9, Q9⟩ := g9.fin (W' := (((((w3.setCell ⟨w.heap.size, 0, none⟩ q0).setCell ⟨w.heap.size, 1, none⟩ q1).setCell ⟨w.heap.size, 2, none⟩ q2).setCell ⟨w.heap.size, 3, none⟩ q3).setCell ⟨w.heap.size, 4, none⟩ q4)) (by simp [World.setCell]) ⟨rfl, rfl, rfl⟩ (fun q hq => by rw [hpS hq, hpS hq, hpS hq, hpS hq, hpS hq])
  have hx1 := g9.b.x1
  exact ⟨_, _, rfl, ⟨⟨s, fs, false, false, at0⟩, ⟨_, _, _, rfl, Q9.mono Qaz (fun b _ hb => by have hb' : xb < b := hb; omega)⟩, Qii _ _ _ _⟩, R9, K9, Qa HN5⟩
 clear g9
 go_wp2_with fail
 refine bodyPost_ret (v := .agg #[str s, .slice ka fs.length kc, .bool false, .bool false, .int .i64 at0]) (by simp [results, Try.results53, go_sem, y_0, y_1, y_2, y_3, y_4]) rfl ?_
 exact Qa HF _ _ _ _ _
end
end Go.Proofs.Ytfmbpaoapjmdnaa
