/- The document's reader: kind. -/
import Derived.Test.YtfmbpaoapjmdnaaQb15
import Derived.Test.YtfmbpaoapjmdnaaQb31
set_option maxRecDepth 100000
set_option maxHeartbeats 32000000
namespace Go.Proofs.Ytfmbpaoapjmdnaa
section
open Go.RowKit Go.Maps
def nmV (rb : Nat) (l : List Tok) (w' : World) (v : Value) : Prop := ∃ x : Txt, v = str x ∧ (rdOk rb w' → NeT l → x ≠ [])
def tyV (rb : Nat) (l : List Tok) (w : World) (w' : World) (v : Value) : Prop := ∃ x : Typ, VTy (fun b => w.heap.size ≤ b) w' v x ∧ (rdOk rb w' → NeT l → (x.sub = [] ↔ x.ctors ≠ []))
theorem Qpz {rb g cap a d i : Nat} {l : List Tok} {w : World} {y f : Int} (h : Rr rb g cap l w a d i y f) :
  Calls Try.prog 59 #[.pointer (some ⟨rb, 0, none⟩)] w fun en w' => RA rb g cap l w d (nmV rb l) (CoY a i y) en w' := by
 obtain ⟨t, ht⟩ := h.tok
 have hnw := Qak h ht
 unfold tkA at hnw
 have H := hide (Ya h ht)
 clear h ht
 go_enter Try.func59, Try.ntmps59
 go_wp2_with fail
 refine hnw.mono ?_
 clear hnw
 rintro en w2 ⟨rfl, b2⟩
 have h2 := (Qa H).1.later b2
 have hfl := Qax h2 (why := 10) (by decide)
 have htk := Qau h2 (Qa H).2
 unfold tkA at htk
 have H2 := hide (Ya h2 b2)
 clear h2 b2
 go_wp2_with fail
 rename_i hK
 refine hK _ _ ?_
 clear hK
 by_cases hk : t.kind = 1
 ·
  have gk : (t.kind != 1) = false := by simpa using hk
  have HM := hide ((Qa H).1.more (Qa H).2 (by omega))
  have HK := hide hk
  clear hk hfl
  go_wp2_with fail
  refine htk.mono ?_
  clear htk
  rintro en w3 ⟨_, a', i', y', f', rfl, rfl, hY, h3, k3⟩
  have H3 := hide (Ya hY (Ya h3 k3))
  clear hY h3 k3
  go_wp2_with fail
  rename_i hK
  refine hK _ _ ?_
  clear hK
  go_wp2_with fail
  go_ret
  obtain ⟨⟨rfl, rfl, hY⟩, h3, k3⟩ := Qa H3
  refine ⟨_, _, _, _, _, rfl, ⟨_, rfl, fun _ hne => hne t (List.mem_of_getElem? (Qa H).2) (Qa HK)⟩, ⟨rfl, ?_, ?_⟩, h3, (Kp.of_below (Qa H2).2).trans k3⟩
  · rcases hY with ⟨_, _, rfl⟩ | ⟨rfl, _⟩ <;> omega
  intro e
  rcases hY with ⟨_, _, rfl⟩ | ⟨_, hn⟩
  · exact ⟨e, by omega⟩
  · exact absurd (Qa HM) (hn e)
 have gk : (t.kind != 1) = true := by simpa using hk
 clear hk htk
 go_wp2_with fail
 refine hfl.mono ?_
 clear hfl
 rintro en w3 ⟨_, a3, i3, y3, f3, rfl, rfl, ⟨rfl, rfl, hY⟩, h3, k3⟩
 have htk := Qau h3 (Qa H).2
 unfold tkA at htk
 have H3 := hide (Ya hY k3)
 clear hY h3 k3
 go_wp2_with fail
 refine htk.mono ?_
 clear htk
 rintro en w4 ⟨_, a', i', y', f', rfl, rfl, hY, h4, k4⟩
 have H4 := hide (Ya hY (Ya h4 k4))
 clear hY h4 k4
 go_wp2_with fail
 rename_i hK
 refine hK _ _ ?_
 clear hK
 go_wp2_with fail
 go_ret
 obtain ⟨⟨rfl, rfl, hY⟩, h4, k4⟩ := Qa H4
 refine ⟨_, _, _, _, _, rfl, ⟨_, rfl, fun ho _ => absurd ((Rr.ok h4).1 ho) (Qa H3).1⟩, ⟨rfl, ?_, fun e => absurd e (Qa H3).1⟩, h4, ((Kp.of_below (Qa H2).2).trans (Qa H3).2).trans k4⟩
 rcases hY with ⟨_, _, rfl⟩ | ⟨rfl, _⟩ <;> omega
theorem Qnz {rb g cap a d i : Nat} {l : List Tok} {w : World} {y f : Int} (h : Rr rb g cap l w a d i y f) (at0 : Int) :
  Calls Try.prog 52 #[.pointer (some ⟨rb, 0, none⟩), .int .i64 at0] w fun en w' => RA rb g cap l w d (tyV rb l w) (CoY a i y) en w' := by
 have b0 : Below w.heap.size w (w.alloc (.cells #[.string ⟨#[]⟩, .string ⟨#[]⟩, .slice none 0 0, .int .i64 0] 68)) := (Below.refl _ w).alloc (Nat.le_refl _) _
 have n0 : (w.alloc (.cells #[.string ⟨#[]⟩, .string ⟨#[]⟩, .slice none 0 0, .int .i64 0] 68)).heap[w.heap.size]? = some (.cells #[.string ⟨#[]⟩, .string ⟨#[]⟩, .slice none 0 0, .int .i64 0] 68 (0, 0)) := heap_alloc_new w _
 have s0 : (w.alloc (.cells #[.string ⟨#[]⟩, .string ⟨#[]⟩, .slice none 0 0, .int .i64 0] 68)).heap.size = w.heap.size + 1 := by simp
 have hwd := Qbz (h.later b0)
 have HH := hide (Ya (Qab h.box) h.row.lt)
 have H0 := hide (Ya b0 (Ya n0 s0))
 clear h b0 n0 s0
 go_enter Try.func52, Try.ntmps52
 go_wp2_with fail
 refine hwd.mono ?_
 clear hwd
 rintro en w2 ⟨_, a2, i2, y2, f2, rfl, ⟨x2, rfl⟩, ⟨ei, ha2, hy2⟩, h2, k2⟩
 rw [ei] at h2
 clear ei
 obtain ⟨b0, n0, s0⟩ := Qa H0
 obtain ⟨g1, g2⟩ := Qa HH
 have hs2 := k2.size
 have n2 := k2.keep n0 (by omega)
 obtain ⟨xb, hxb⟩ : ∃ xb, w2.heap.size = xb := ⟨_, rfl⟩
 obtain ⟨w3, hw3⟩ : ∃ w3, w3 = w2.alloc (.cells #[str x2, .string ⟨#[]⟩, .slice none 0 0, .int .i64 at0] 68) := ⟨_, rfl⟩
 have b3 : Below w2.heap.size w2 w3 := by rw [hw3]; exact (Below.refl _ w2).alloc (Nat.le_refl _) _
 have n3 : w3.heap[xb]? = some (.cells #[str x2, .string ⟨#[]⟩, .slice none 0 0, .int .i64 at0] 68 (0, 0)) := by rw [hw3, ← hxb]; exact heap_alloc_new w2 _
 have q3 := (b3.block _ (by omega)).trans n2
 have G3 : Hid (Gx PC 2 120 rb g cap l w d i a y xb 68 #[.string ⟨#[]⟩, .string ⟨#[]⟩, .slice none 0 0, .int .i64 0] (fun _ => True) w3 #[str x2, .string ⟨#[]⟩, .slice none 0 0, .int .i64 at0] a2 y2 f2 (.slice none 0 0) []) := ⟨h2.later b3, ⟨((Kp.of_below b0).trans k2).trans (Kp.of_below b3), n3, q3, g1, g2, by omega⟩, trivial, Qo.nil _, ha2, hy2, Nat.zero_le _, fun _ => Nat.zero_le _⟩
 have hmy := Qb (Qa G3).r ⟨#[60, 58]⟩
 have HW3 := hide (Ya hw3 hxb)
 clear b0 n0 s0 g1 g2 hs2 n2 hxb hw3 b3 n3 q3 ha2 hy2 h2 k2 H0
 go_wp2_with fail
 rw [← (Qa HW3).1, (Qa HW3).2]
 clear HW3
 refine hmy.mono ?_
 clear hmy
 rintro en w4 ⟨b, a4, f4, rfl, hb1, hb0, h4, k4⟩
 have G4 := hide ((Qa G3).call Qcd (EK.none _ _) k4 h4 (by
  cases b with
  | true => have := (hb1 rfl).2; omega
  | false => have := hb0 rfl; omega) (fun e => e))
 clear hb1 hb0 h4 k4 G3
 cases b
 ·
  have hms := Qbd (Qa G4).r ⟨#[61]⟩
  go_wp2_with fail
  refine hms.mono ?_
  clear hms
  rintro en w5 ⟨_, a5, i5, y5, f5, rfl, rfl, ⟨ei, ha5, hy5⟩, h5, k5⟩
  rw [ei] at h5
  clear ei
  have G5 := hide ((Qa G4).call Qcd (EK.none _ _) k5 h5 ha5 (fun e => (hy5 e).1))
  clear ha5 hy5 h5 k5 G4
  go_wp2_with fail
  go_loopw [6] (fun fb wr => ∃ (fst : Bool) (acc : List Ctr) (a1 : Nat) (y1 f1 : Int) (sa : Option Addr) (sc : Nat), fb = .bool fst ∧ acc.length ≤ sc ∧ sc ≤ maxLen ∧ Hid (Gx PC 2 120 rb g cap l w d i a y xb 68 #[.string ⟨#[]⟩, .string ⟨#[]⟩, .slice none 0 0, .int .i64 0] (fun _ => True) wr #[str x2, .string ⟨#[]⟩, .slice sa acc.length sc, .int .i64 at0] a1 y1 f1 (.slice sa acc.length sc) acc) ∧ Hid (fst = false → acc ≠ [])) (fun _ wr => leftR rb l.length wr)
  case atStart => exact ⟨true, [], a5, y5, f5, none, 0, rfl, Nat.le_refl _, by unfold maxLen; omega, G5, hide (fun e => by cases e)⟩
  obtain ⟨fst, acc, a1, y1, f1, sa, sc, rfl, hc1, hc2, HI, HAC⟩ := hrel
  unfold maxLen at hc2
  clear G5
  have hwl := Qao (Qa HI).r
  by_cases hy : y1 = 0
  ·
   rw [decide_eq_true hy] at hwl
   have HY := hide hy
   clear hy
   cases fst
   ·
    have hmy := Qb (Qa HI).r ⟨#[124]⟩
    go_wp2_with fail
    refine hwl.mono ?_
    clear hwl
    rintro en wq ⟨rfl, rfl⟩
    go_wp2_with fail
    refine hmy.mono ?_
    clear hmy
    rintro en WX ⟨b, aM, fM, rfl, hb1, hb0, hM, kM⟩
    have eM : a1 ≤ aM := by
     cases b with
     | true => have := (hb1 rfl).2; omega
     | false => have := hb0 rfl; omega
    have GM := hide ((Qa HI).call Qcd (EK.none _ _) kM hM eM (fun e => e))
    have HNL := hide (show acc.length ≤ aM by have := (Qa HI).n0 (Qa HY); omega)
    have HA1 := hide eM
    clear hb1 hb0 hM kM eM
    cases b
    ·
     have g9 := Qa GM
     obtain ⟨x_0, x_1, x_2, x_3, xf⟩ := cl4 g9.b.box
     obtain ⟨y_0, y_1, y_2, y_3, yf⟩ := cl4 g9.b.res
     have HF : Hid (∀ q0 q1 q2 q3, RA rb g cap l w d (tyV rb l w) (CoY a i y) (.returned (.agg #[str x2, .string ⟨#[]⟩, .slice sa acc.length sc, .int .i64 at0])) ((((WX.setCell ⟨w.heap.size, 0, none⟩ q0).setCell ⟨w.heap.size, 1, none⟩ q1).setCell ⟨w.heap.size, 2, none⟩ q2).setCell ⟨w.heap.size, 3, none⟩ q3)) := fun q0 q1 q2 q3 => by
      obtain ⟨R9, K9, _, Q9⟩ := g9.fin Qcd (EK.none _ _) (W' := ((((WX.setCell ⟨w.heap.size, 0, none⟩ q0).setCell ⟨w.heap.size, 1, none⟩ q1).setCell ⟨w.heap.size, 2, none⟩ q2).setCell ⟨w.heap.size, 3, none⟩ q3)) (by simp [World.setCell]) ⟨rfl, rfl, rfl⟩ (fun q hq => by rw [hpS hq, hpS hq, hpS hq, hpS hq])
      have hx1 := g9.b.x1
      exact ⟨_, _, _, _, _, rfl, ⟨⟨x2, [], acc, at0⟩, ⟨_, _, _, rfl, (Q9.ls Qcd).mono Qcd (fun b _ hb => by have hb' : xb + 1 ≤ b := hb; omega)⟩, fun _ _ => ⟨fun _ => Qa HAC (by trivial), fun _ => rfl⟩⟩, ⟨rfl, g9.le, g9.y0⟩, R9, K9⟩
     clear g9
     go_wp2_with fail
     refine bodyPost_ret (v := .agg #[str x2, .string ⟨#[]⟩, .slice sa acc.length sc, .int .i64 at0]) (by simp [results, Try.results52, go_sem, y_0, y_1, y_2, y_3]) rfl ?_
     exact Qa HF _ _ _ _
    have hwd := Qbz (Qa GM).r
    go_wp2_with fail
    refine hwd.mono ?_
    clear hwd
    rintro en w5 ⟨_, a5, i5, y5, f5, rfl, ⟨x5, rfl⟩, ⟨ei, ha5, hy5⟩, h5, k5⟩
    rw [ei] at h5
    clear ei
    obtain ⟨cb, hcb⟩ : ∃ cb, w5.heap.size = cb := ⟨_, rfl⟩
    obtain ⟨w6, hw6⟩ : ∃ w6, w6 = w5.alloc (.cells #[str x5, .slice none 0 0] 120) := ⟨_, rfl⟩
    have b6 : Below w5.heap.size w5 w6 := by rw [hw6]; exact (Below.refl _ w5).alloc (Nat.le_refl _) _
    have n6 : w6.heap[cb]? = some (.cells #[str x5, .slice none 0 0] 120 (0, 0)) := by rw [hw6, ← hcb]; exact heap_alloc_new w5 _
    have s6 : w6.heap.size = cb + 1 := by rw [hw6, ← hcb]; simp
    have hfd := Qdz (h5.later b6) ⟨#[123]⟩ ⟨#[125]⟩
    have K6 := hide (Ya (k5.trans (Kp.of_below b6)) (Ya n6 (Ya s6 (Ya (show WX.heap.size ≤ cb by have := k5.size; omega) (Ya ha5 hy5)))))
    have HW6 := hide (Ya hw6 hcb)
    clear ha5 hy5 h5 k5 hcb hw6 b6 n6 s6
    go_wp2_with fail
    rw [← (Qa HW6).1, (Qa HW6).2]
    clear HW6
    refine hfd.mono ?_
    clear hfd
    rintro en w7 ⟨_, a7, i7, y7, f7, rfl, ⟨fs, hfs⟩, ⟨ei, ha7, hy7⟩, h7, k7⟩
    rw [ei] at h7
    clear ei
    obtain ⟨ka, kc, rfl⟩ := hfs.sl
    obtain ⟨k6, n6, s6, hcb, ha5, hy5⟩ := Qa K6
    have hb1 := (Qa GM).b.r1
    have hb2 := (Qa GM).b.g1
    have hb3 := (Qa GM).b.x1
    have hxl := Qab (Qa GM).b.box
    have hs7 := k7.size
    have n7 := k7.keep n6 (by omega)
    obtain ⟨w8, hw8⟩ : ∃ w8, w8 = w7.setCell ⟨cb, 1, none⟩ (.slice ka fs.length kc) := ⟨_, rfl⟩
    have n8 : w8.heap[cb]? = some (.cells #[str x5, .slice ka fs.length kc] 120 (0, 0)) := by rw [hw8]; exact (Qah n7 1 _).trans rfl
    have o8 : ∀ q, q ≠ cb → w8.heap[q]? = w7.heap[q]? := fun q hq => by rw [hw8, hpS hq]
    have s8 : w8.heap.size = w7.heap.size := by rw [hw8]; simp
    have h8 : Rr rb g cap l w8 a7 d i y7 f7 := h7.move (by omega) (o8 rb (by omega)) (o8 g (by omega))
    have k8 : Kp rb WX w8 := by rw [hw8]; exact (k6.trans k7).set2 hcb
    have bx8 := k8.keep (Qa GM).b.box (by omega)
    have hx8 : PC (fun b => WX.heap.size ≤ b) w8 [str x5, .slice ka fs.length kc] ⟨x5, fs⟩ := ⟨_, _, _, rfl, (hfs.same Qaz (by omega) (fun b hb hl => o8 b (by have hb' : w6.heap.size ≤ b := hb; omega))).mono Qaz (fun b _ hb => by have hb' : w6.heap.size ≤ b := hb; omega)⟩
    obtain ⟨i0, hi, hz, hsz, hby⟩ := infoC
    obtain ⟨ra, rc, w9, hrun, hr1, hr2, bx9, g9⟩ := (Qa GM).more Qcd (EK.none _ _) (by kernel_rfl : Try.prog.underlying 66 = some (.slice 120)) hi hz hsz hby rfl (by decide) (by decide) (cx := [str x5, .slice ka fs.length kc]) rfl (by simp [Value.oneCell', str]) hx8 h8 k8 (by omega) (fun e => ⟨(hy5 (hy7 e).1).1, by have := (hy5 (hy7 e).1).2; omega⟩) (by have := Qa HNL; omega) 2
    obtain ⟨x_0, x_1, x_2, x_3, xf⟩ := cl4 bx8
    obtain ⟨u_0, u_1, uf⟩ := cl2 n7
    obtain ⟨v_0, v_1, vf⟩ := cl2 n8
    obtain ⟨z_0, z_1, z_2, z_3, zf⟩ := cl4 bx9
    have hlf := Qai (Qa HI).r l.length
    have hlz := Qai g9.r l.length
    have HM := hide (Ya hlf (Ya hlz (Ya (Qa HI).r.lt (Ya g9.r.lt (Ya ha5 (Ya hy5 (Ya ha7 hy7)))))))
    rw [show w8.heap.size = w7.heap.size from s8] at hrun
    rw [hw8] at hrun x_2 v_0 v_1
    have HRUN := hide hrun
    have HG9 := hide g9
    clear hfs h7 k7 k6 n6 s6 hcb ha5 hy5 hb1 hb2 hb3 hxl hs7 n7 hw8 n8 o8 s8 h8 k8 bx8 hx8 hi hz hsz hby hrun bx9 g9 hlf hlz ha7 hy7 x_0 x_1 x_3 xf
    go_wp2_with (at_builtin; refine Qaj _ rfl _ _ 66 rfl _ _ rfl rfl _ _ (Qa HRUN) ?_; clear HRUN)
    go_roundw
    case rel => exact ⟨false, acc ++ [⟨x5, fs⟩], a7, y7, f7, ra, rc, rfl, by simpa using hr1, hr2, hide (by simpa using Qa HG9), hide (fun _ => by simp)⟩
    obtain ⟨hlf, hlz, m1, m2, ha5, hy5, ha7, hy7⟩ := Qa HM
    rw [hlf, hlz, if_pos (Qa HY)]
    split
    ·
     rename_i e
     have e7 := hy7 e
     have e5 := hy5 e7.1
     have := Qa HA1
     omega
    · omega
   go_wp2_with fail
   refine hwl.mono ?_
   clear hwl
   rintro en wq ⟨rfl, rfl⟩
   have HNL := hide ((Qa HI).n0 (Qa HY))
   have HA1 := hide (Nat.le_refl a1)
   have hwd := Qbz (Qa HI).r
   go_wp2_with fail
   refine hwd.mono ?_
   clear hwd
   rintro en w5 ⟨_, a5, i5, y5, f5, rfl, ⟨x5, rfl⟩, ⟨ei, ha5, hy5⟩, h5, k5⟩
   rw [ei] at h5
   clear ei
   obtain ⟨cb, hcb⟩ : ∃ cb, w5.heap.size = cb := ⟨_, rfl⟩
   obtain ⟨w6, hw6⟩ : ∃ w6, w6 = w5.alloc (.cells #[str x5, .slice none 0 0] 120) := ⟨_, rfl⟩
   have b6 : Below w5.heap.size w5 w6 := by rw [hw6]; exact (Below.refl _ w5).alloc (Nat.le_refl _) _
   have n6 : w6.heap[cb]? = some (.cells #[str x5, .slice none 0 0] 120 (0, 0)) := by rw [hw6, ← hcb]; exact heap_alloc_new w5 _
   have s6 : w6.heap.size = cb + 1 := by rw [hw6, ← hcb]; simp
   have hfd := Qdz (h5.later b6) ⟨#[123]⟩ ⟨#[125]⟩
   have K6 := hide (Ya (k5.trans (Kp.of_below b6)) (Ya n6 (Ya s6 (Ya (show wq.heap.size ≤ cb by have := k5.size; omega) (Ya ha5 hy5)))))
   have HW6 := hide (Ya hw6 hcb)
   clear ha5 hy5 h5 k5 hcb hw6 b6 n6 s6
   go_wp2_with fail
   rw [← (Qa HW6).1, (Qa HW6).2]
   clear HW6
   refine hfd.mono ?_
   clear hfd
   rintro en w7 ⟨_, a7, i7, y7, f7, rfl, ⟨fs, hfs⟩, ⟨ei, ha7, hy7⟩, h7, k7⟩
   rw [ei] at h7
   clear ei
   obtain ⟨ka, kc, rfl⟩ := hfs.sl
   obtain ⟨k6, n6, s6, hcb, ha5, hy5⟩ := Qa K6
   have hb1 := (Qa HI).b.r1
   have hb2 := (Qa HI).b.g1
   have hb3 := (Qa HI).b.x1
   have hxl := Qab (Qa HI).b.box
   have hs7 := k7.size
   have n7 := k7.keep n6 (by omega)
   obtain ⟨w8, hw8⟩ : ∃ w8, w8 = w7.setCell ⟨cb, 1, none⟩ (.slice ka fs.length kc) := ⟨_, rfl⟩
   have n8 : w8.heap[cb]? = some (.cells #[str x5, .slice ka fs.length kc] 120 (0, 0)) := by rw [hw8]; exact (Qah n7 1 _).trans rfl
   have o8 : ∀ q, q ≠ cb → w8.heap[q]? = w7.heap[q]? := fun q hq => by rw [hw8, hpS hq]
   have s8 : w8.heap.size = w7.heap.size := by rw [hw8]; simp
   have h8 : Rr rb g cap l w8 a7 d i y7 f7 := h7.move (by omega) (o8 rb (by omega)) (o8 g (by omega))
   have k8 : Kp rb wq w8 := by rw [hw8]; exact (k6.trans k7).set2 hcb
   have bx8 := k8.keep (Qa HI).b.box (by omega)
   have hx8 : PC (fun b => wq.heap.size ≤ b) w8 [str x5, .slice ka fs.length kc] ⟨x5, fs⟩ := ⟨_, _, _, rfl, (hfs.same Qaz (by omega) (fun b hb hl => o8 b (by have hb' : w6.heap.size ≤ b := hb; omega))).mono Qaz (fun b _ hb => by have hb' : w6.heap.size ≤ b := hb; omega)⟩
   obtain ⟨i0, hi, hz, hsz, hby⟩ := infoC
   obtain ⟨ra, rc, w9, hrun, hr1, hr2, bx9, g9⟩ := (Qa HI).more Qcd (EK.none _ _) (by kernel_rfl : Try.prog.underlying 66 = some (.slice 120)) hi hz hsz hby rfl (by decide) (by decide) (cx := [str x5, .slice ka fs.length kc]) rfl (by simp [Value.oneCell', str]) hx8 h8 k8 (by omega) (fun e => ⟨(hy5 (hy7 e).1).1, by have := (hy5 (hy7 e).1).2; omega⟩) (by have := Qa HNL; omega) 2
   obtain ⟨x_0, x_1, x_2, x_3, xf⟩ := cl4 bx8
   obtain ⟨u_0, u_1, uf⟩ := cl2 n7
   obtain ⟨v_0, v_1, vf⟩ := cl2 n8
   obtain ⟨z_0, z_1, z_2, z_3, zf⟩ := cl4 bx9
   have hlf := Qai (Qa HI).r l.length
   have hlz := Qai g9.r l.length
   have HM := hide (Ya hlf (Ya hlz (Ya (Qa HI).r.lt (Ya g9.r.lt (Ya ha5 (Ya hy5 (Ya ha7 hy7)))))))
   rw [show w8.heap.size = w7.heap.size from s8] at hrun
   rw [hw8] at hrun x_2 v_0 v_1
   have HRUN := hide hrun
   have HG9 := hide g9
   clear hfs h7 k7 k6 n6 s6 hcb ha5 hy5 hb1 hb2 hb3 hxl hs7 n7 hw8 n8 o8 s8 h8 k8 bx8 hx8 hi hz hsz hby hrun bx9 g9 hlf hlz ha7 hy7 x_0 x_1 x_3 xf
   go_wp2_with (at_builtin; refine Qaj _ rfl _ _ 66 rfl _ _ rfl rfl _ _ (Qa HRUN) ?_; clear HRUN)
   go_roundw
   case rel => exact ⟨false, acc ++ [⟨x5, fs⟩], a7, y7, f7, ra, rc, rfl, by simpa using hr1, hr2, hide (by simpa using Qa HG9), hide (fun _ => by simp)⟩
   obtain ⟨hlf, hlz, m1, m2, ha5, hy5, ha7, hy7⟩ := Qa HM
   rw [hlf, hlz, if_pos (Qa HY)]
   split
   ·
    rename_i e
    have e7 := hy7 e
    have e5 := hy5 e7.1
    have := Qa HA1
    omega
   · omega
  rw [decide_eq_false hy] at hwl
  have HYN := hide hy
  clear hy
  go_wp2_with fail
  refine hwl.mono ?_
  clear hwl
  rintro en wq ⟨rfl, rfl⟩
  have g9 := Qa HI
  obtain ⟨x_0, x_1, x_2, x_3, xf⟩ := cl4 g9.b.box
  obtain ⟨y_0, y_1, y_2, y_3, yf⟩ := cl4 g9.b.res
  have HF : Hid (∀ q0 q1 q2 q3, RA rb g cap l w d (tyV rb l w) (CoY a i y) (.returned (.agg #[str x2, .string ⟨#[]⟩, .slice sa acc.length sc, .int .i64 at0])) ((((wq.setCell ⟨w.heap.size, 0, none⟩ q0).setCell ⟨w.heap.size, 1, none⟩ q1).setCell ⟨w.heap.size, 2, none⟩ q2).setCell ⟨w.heap.size, 3, none⟩ q3)) := fun q0 q1 q2 q3 => by
   obtain ⟨R9, K9, _, Q9⟩ := g9.fin Qcd (EK.none _ _) (W' := ((((wq.setCell ⟨w.heap.size, 0, none⟩ q0).setCell ⟨w.heap.size, 1, none⟩ q1).setCell ⟨w.heap.size, 2, none⟩ q2).setCell ⟨w.heap.size, 3, none⟩ q3)) (by simp [World.setCell]) ⟨rfl, rfl, rfl⟩ (fun q hq => by rw [hpS hq, hpS hq, hpS hq, hpS hq])
   have hx1 := g9.b.x1
   exact ⟨_, _, _, _, _, rfl, ⟨⟨x2, [], acc, at0⟩, ⟨_, _, _, rfl, (Q9.ls Qcd).mono Qcd (fun b _ hb => by have hb' : xb + 1 ≤ b := hb; omega)⟩, fun ho _ => absurd ((Rr.ok R9).1 ho) (Qa HYN)⟩, ⟨rfl, g9.le, g9.y0⟩, R9, K9⟩
  clear g9
  go_wp2_with fail
  refine bodyPost_ret (v := .agg #[str x2, .string ⟨#[]⟩, .slice sa acc.length sc, .int .i64 at0]) (by simp [results, Try.results52, go_sem, y_0, y_1, y_2, y_3]) rfl ?_
  exact Qa HF _ _ _ _
 have hnm := Qpz (Qa G4).r
 go_wp2_with fail
 refine hnm.mono ?_
 clear hnm
 rintro en w5 ⟨_, a5, i5, y5, f5, rfl, ⟨x5, rfl, hx5⟩, ⟨ei, ha5, hy5⟩, h5, k5⟩
 rw [ei] at h5
 clear ei
 have HX5 := hide (show y5 = 0 → NeT l → x5 ≠ [] from fun e => hx5 ((Rr.ok h5).2 e))
 clear hx5
 have g5 := (Qa G4).call Qcd (EK.none _ _) k5 h5 ha5 (fun e => (hy5 e).1)
 obtain ⟨w6, hw6⟩ : ∃ w6, w6 = w5.setCell ⟨xb, 1, none⟩ (str x5) := ⟨_, rfl⟩
 have g6 : Gx PC 2 120 rb g cap l w d i a y xb 68 #[.string ⟨#[]⟩, .string ⟨#[]⟩, .slice none 0 0, .int .i64 0] (fun _ => True) w6 #[str x2, str x5, .slice none 0 0, .int .i64 at0] a5 y5 f5 (.slice none 0 0) [] := by
  have hx1 := g5.b.x1
  rw [hw6]
  exact ⟨g5.r.atBox ⟨by have := g5.b.r1; omega, by have := g5.b.g1; omega⟩ 1 _, g5.b.set 1 _, trivial, Qo.nil _, g5.le, g5.y0, g5.n, g5.n0⟩
 obtain ⟨w_0, w_1, w_2, w_3, wf⟩ := cl4 g5.b.box
 obtain ⟨x_0, x_1, x_2, x_3, xf⟩ := cl4 g6.b.box
 obtain ⟨y_0, y_1, y_2, y_3, yf⟩ := cl4 g6.b.res
 have HF : Hid (∀ q0 q1 q2 q3, RA rb g cap l w d (tyV rb l w) (CoY a i y) (.returned (.agg #[str x2, str x5, .slice none 0 0, .int .i64 at0])) ((((w6.setCell ⟨w.heap.size, 0, none⟩ q0).setCell ⟨w.heap.size, 1, none⟩ q1).setCell ⟨w.heap.size, 2, none⟩ q2).setCell ⟨w.heap.size, 3, none⟩ q3)) := fun q0 q1 q2 q3 => by
  obtain ⟨R9, K9, _, Q9⟩ := g6.fin Qcd (EK.none _ _) (W' := ((((w6.setCell ⟨w.heap.size, 0, none⟩ q0).setCell ⟨w.heap.size, 1, none⟩ q1).setCell ⟨w.heap.size, 2, none⟩ q2).setCell ⟨w.heap.size, 3, none⟩ q3)) (by simp [World.setCell]) ⟨rfl, rfl, rfl⟩ (fun q hq => by rw [hpS hq, hpS hq, hpS hq, hpS hq])
  have hx1 := g6.b.x1
  exact ⟨_, _, _, _, _, rfl, ⟨⟨x2, x5, [], at0⟩, ⟨_, _, _, rfl, (Q9.ls Qcd).mono Qcd (fun b _ hb => by have hb' : xb + 1 ≤ b := hb; omega)⟩, fun ho hne => ⟨fun e => absurd e (Qa HX5 ((Rr.ok R9).1 ho) hne), fun e => absurd rfl e⟩⟩, ⟨rfl, g6.le, g6.y0⟩, R9, K9⟩
 clear h5 k5 ha5 hy5 g5 g6 w_0 w_2 w_3
 subst hw6
 go_wp2_with fail
 refine bodyPost_ret (v := .agg #[str x2, str x5, .slice none 0 0, .int .i64 at0]) (by simp [results, Try.results52, go_sem, y_0, y_1, y_2, y_3]) rfl ?_
 exact Qa HF _ _ _ _
end
end Go.Proofs.Ytfmbpaoapjmdnaa
