/- The document's reader: prog. -/
import Derived.Test.YtfmbpaoapjmdnaaQb35
import Derived.Test.YtfmbpaoapjmdnaaQb31
import Derived.Test.YtfmbpaoapjmdnaaQb32
import Derived.Test.YtfmbpaoapjmdnaaQb33
import Derived.Test.YtfmbpaoapjmdnaaQb34
set_option maxRecDepth 100000
set_option maxHeartbeats 32000000
namespace Go.Proofs.Ytfmbpaoapjmdnaa
section
open Go.RowKit Go.Maps
abbrev mLRpw0 : List (Nat × Nat) := [(0, 1), (1, 2), (2, 1), (3, 1), (4, 0), (5, 0), (6, 0), (7, 1), (8, 0)]

def lenP (p : Pg) : Nat := p.types.length + p.decls.length + p.comps.length + p.inits.length + p.clauses.length
structure StP (rb g cap : Nat) (l : List Tok) (w : World) (d i a : Nat) (y : Int) (pb : Nat) (W : World) (v0 v1 v2 v3 v4 : Value) (p : Pg) (aX iX : Nat) (yX fX : Int) : Prop where
 r : Rr rb g cap l W aX d iX yX fX
 b : PgB rb g w pb W v0 v1 v2 v3 v4 p
 le : a ≤ aX
 ile : i ≤ iX
 i97 : iX ≤ 97
 y0 : yX = 0 → y = 0 ∧ iX ≤ 96
 ln : lenP p ≤ iX
section
variable {rb g cap : Nat} {l : List Tok} {w : World} {d i a : Nat} {y : Int} {pb : Nat} {W W' : World} {v0 v1 v2 v3 v4 : Value} {p : Pg} {aX iX : Nat} {yX fX f2 : Int}
theorem StP.call (h : StP rb g cap l w d i a y pb W v0 v1 v2 v3 v4 p aX iX yX fX) (k : Kp rb W W') (hR : Rr rb g cap l W' aX d iX yX f2) : StP rb g cap l w d i a y pb W' v0 v1 v2 v3 v4 p aX iX yX f2 := ⟨hR, h.b.call k, h.le, h.ile, h.i97, h.y0, h.ln⟩
theorem StP.mayT (h : StP rb g cap l w d i a y pb W v0 v1 v2 v3 v4 p aX iX yX fX) (k : Kp rb W W') (hR : Rr rb g cap l W' (aX + 1) d iX yX f2) : StP rb g cap l w d i a y pb W' v0 v1 v2 v3 v4 p (aX + 1) iX yX f2 := ⟨hR, h.b.call k, by have := h.le; omega, h.ile, h.i97, h.y0, h.ln⟩
end
theorem Qkq {rb g cap : Nat} {l : List Tok} {d : Nat} (hN : d ≤ 32 → PgC rb g cap l (d + 1)) : PgC rb g cap l d := by
 intro w a i y f h hi hy0
 have b0 : Below w.heap.size w (w.alloc (.cells #[.slice none 0 0, .slice none 0 0, .slice none 0 0, .slice none 0 0, .slice none 0 0] 28)) := (Below.refl _ w).alloc (Nat.le_refl _) _
 obtain ⟨w1, hw1⟩ : ∃ w1, w1 = w.alloc (.cells #[.slice none 0 0, .slice none 0 0, .slice none 0 0, .slice none 0 0, .slice none 0 0] 28) := ⟨_, rfl⟩
 obtain ⟨w2, hw2⟩ : ∃ w2, w2 = w1.alloc (.cells #[.slice none 0 0, .slice none 0 0, .slice none 0 0, .slice none 0 0, .slice none 0 0] 28) := ⟨_, rfl⟩
 obtain ⟨pb, hpb⟩ : ∃ pb, w.heap.size + 1 = pb := ⟨_, rfl⟩
 have b1 : Below w.heap.size w w1 := by rw [hw1]; exact (Below.refl _ w).alloc (Nat.le_refl _) _
 have n1 : w1.heap[w.heap.size]? = some (.cells #[.slice none 0 0, .slice none 0 0, .slice none 0 0, .slice none 0 0, .slice none 0 0] 28 (0, 0)) := by rw [hw1]; exact heap_alloc_new w _
 have s1 : w1.heap.size = w.heap.size + 1 := by rw [hw1]; simp
 have b2 : Below w1.heap.size w1 w2 := by rw [hw2]; exact (Below.refl _ w1).alloc (Nat.le_refl _) _
 have n2 : w2.heap[pb]? = some (.cells #[.slice none 0 0, .slice none 0 0, .slice none 0 0, .slice none 0 0, .slice none 0 0] 28 (0, 0)) := by rw [hw2, ← hpb, ← s1]; exact heap_alloc_new w1 _
 have q2 : w2.heap[w.heap.size]? = some (.cells #[.slice none 0 0, .slice none 0 0, .slice none 0 0, .slice none 0 0, .slice none 0 0] 28 (0, 0)) := (b2.block _ (by omega)).trans n1
 have hap : Apt (.slice none 0 0) (.slice none 0 0) := fun b e _ => by cases e
 have hb2 : Below w.heap.size w w2 := b1.trans (b2.mono (by omega))
 have S0 : Hid (StP rb g cap l w d i a y pb w2 (.slice none 0 0) (.slice none 0 0) (.slice none 0 0) (.slice none 0 0) (.slice none 0 0) .none a i y f) := ⟨h.later hb2, ⟨⟨n2, by omega, Row.nil _ _, Row.nil _ _, Row.nil _ _, Row.nil _ _, Row.nil _ _, hap, hap, hap, hap, hap, hap, hap, hap, hap, hap⟩, Kp.of_below hb2, q2, Qab h.box, h.row.lt, by omega⟩, Nat.le_refl _, Nat.le_refl _, hi, fun e => ⟨e, (hy0 e).1⟩, Nat.zero_le _⟩
 have HD := hide (show y = 0 → d ≤ 32 from fun e => (hy0 e).2)
 have HN := hide hN
 have HW := hide (Ya hw2 (Ya hw1 hpb))
 clear h hi hy0 b0 hw1 hw2 hpb b1 n1 s1 b2 n2 q2 hap hb2 hN
 go_enter Try.func16, Try.ntmps16
 go_wp2_with fail
 rw [← (Qa HW).2.1, ← (Qa HW).1, (Qa HW).2.2]
 clear HW
 go_loopw [4] (fun _ wr => ∃ (p : Pg) (e0 e1 e2 e3 e4 : Option Addr) (c0 c1 c2 c3 c4 : Nat) (a1 i1 : Nat) (y1 f1 : Int), Hid (StP rb g cap l w d i a y pb wr (.slice e0 p.types.length c0) (.slice e1 p.decls.length c1) (.slice e2 p.comps.length c2) (.slice e3 p.inits.length c3) (.slice e4 p.clauses.length c4) p a1 i1 y1 f1) ∧ Hid (y1 = 0 → NeT l → WfT p)) (fun _ wr => leftR rb l.length wr)
 case atStart => exact ⟨.none, none, none, none, none, none, 0, 0, 0, 0, 0, a, i, y, f, S0, hide (fun _ _ => Qff)⟩
 obtain ⟨p, e0, e1, e2, e3, e4, c0, c1, c2, c3, c4, a1, i1, y1, f1, HI, WFI⟩ := hrel
 clear S0
 have hwl := Qao (Qa HI).r
 by_cases hy : y1 = 0
 ·
  rw [decide_eq_true hy] at hwl
  have HY := hide hy
  clear hy
  replace HD := hide (show y1 = 0 → d ≤ 32 from fun e => Qa HD ((Qa HI).y0 e).1)
  obtain ⟨t, ht⟩ := (Qa HI).r.tok
  have HT := hide ht
  clear ht
  have SI := HI
  go_wp2_with fail
  refine hwl.mono ?_
  clear hwl
  rintro en wq ⟨rfl, rfl⟩
  have hcl := Qak (Qa SI).r (Qa HT)
  unfold tkA at hcl
  go_wp2_with fail
  refine hcl.mono ?_
  clear hcl
  rintro en w1 ⟨rfl, b1⟩
  have S1 := hide ((Qa SI).call (Kp.of_below b1) ((Qa SI).r.later b1))
  clear b1
  by_cases ku : t.kind = 0
  ·
   have gu : (t.kind != 0) = false := by simpa using ku
   clear ku
   go_wp2_with fail
   rename_i hK
   refine hK _ _ ?_
   clear hK
   have g9 := Qa S1
   obtain ⟨x_0, x_1, x_2, x_3, x_4, xf⟩ := cl5 g9.b.p5.box
   obtain ⟨y_0, y_1, y_2, y_3, y_4, yf⟩ := cl5 g9.b.res
   have HF : Hid (∀ q0 q1 q2 q3 q4, RA rb g cap l w d (pgV rb l w) (PgY a i y) (.returned (.agg #[.slice e0 p.types.length c0, .slice e1 p.decls.length c1, .slice e2 p.comps.length c2, .slice e3 p.inits.length c3, .slice e4 p.clauses.length c4])) (((((w1.setCell ⟨w.heap.size, 0, none⟩ q0).setCell ⟨w.heap.size, 1, none⟩ q1).setCell ⟨w.heap.size, 2, none⟩ q2).setCell ⟨w.heap.size, 3, none⟩ q3).setCell ⟨w.heap.size, 4, none⟩ q4)) := fun q0 q1 q2 q3 q4 => by
    obtain ⟨K9, P9⟩ := g9.b.fin (W' := (((((w1.setCell ⟨w.heap.size, 0, none⟩ q0).setCell ⟨w.heap.size, 1, none⟩ q1).setCell ⟨w.heap.size, 2, none⟩ q2).setCell ⟨w.heap.size, 3, none⟩ q3).setCell ⟨w.heap.size, 4, none⟩ q4)) (by simp [World.setCell]) ⟨rfl, rfl, rfl⟩ (fun q hq => by rw [hpS hq, hpS hq, hpS hq, hpS hq, hpS hq])
    have hr1 := g9.b.r1
    have hg1 := g9.b.g1
    have hb : ∀ q, q ≠ w.heap.size → (((((w1.setCell ⟨w.heap.size, 0, none⟩ q0).setCell ⟨w.heap.size, 1, none⟩ q1).setCell ⟨w.heap.size, 2, none⟩ q2).setCell ⟨w.heap.size, 3, none⟩ q3).setCell ⟨w.heap.size, 4, none⟩ q4).heap[q]? = w1.heap[q]? := fun q hq => by rw [hpS hq, hpS hq, hpS hq, hpS hq, hpS hq]
    exact ⟨_, _, _, _, _, rfl, ⟨p, _, _, _, _, _, _, _, _, _, _, _, _, _, _, _, rfl, P9, by have h1 := g9.ln; have h2 := g9.i97; simp only [lenP] at h1; omega, fun ho hne => Qa WFI ((Qqd ((hb rb (by omega)).trans g9.r.box)).1 ho) hne⟩, ⟨g9.le, g9.ile, g9.i97, g9.y0⟩, g9.r.move (by simp [World.setCell]) (hb rb (by omega)) (hb g (by omega)), K9⟩
   clear g9
   go_wp2_with fail
   refine bodyPost_ret (v := .agg #[.slice e0 p.types.length c0, .slice e1 p.decls.length c1, .slice e2 p.comps.length c2, .slice e3 p.inits.length c3, .slice e4 p.clauses.length c4]) (by simp [results, Try.results16, go_sem, y_0, y_1, y_2, y_3, y_4]) rfl ?_
   exact Qa HF _ _ _ _ _
  have gu : (t.kind != 0) = true := by simpa using ku
  clear ku
  have hsg := Qby (Qa S1).r ⟨#[125]⟩
  go_wp2_with fail
  rename_i hK
  refine hK _ _ ?_
  clear hK
  go_wp2_with fail
  refine hsg.mono ?_
  clear hsg
  rintro en w2 ⟨b, rfl, hb, b2⟩
  have S2 := hide ((Qa S1).call (Kp.of_below b2) ((Qa S1).r.later b2))
  clear hb b2
  cases b
  ·
   obtain ⟨q_0, q_1, q_2, q_3, q_4, q_5, qf⟩ := cl6 (Qa S2).r.box
   have i96 := ((Qa S2).y0 (Qa HY)).2
   obtain ⟨w3, hw3⟩ : ∃ w3, w3 = w2.setCell ⟨rb, 3, none⟩ (.int .i64 ((i1 : Int) + 1)) := ⟨_, rfl⟩
   have h3 : Rr rb g cap l w3 a1 d (i1 + 1) y1 f1 := by rw [hw3]; exact (Qa S2).r.setI (i' := i1 + 1) (by omega)
   have G3 : PgB rb g w pb w3 (.slice e0 p.types.length c0) (.slice e1 p.decls.length c1) (.slice e2 p.comps.length c2) (.slice e3 p.inits.length c3) (.slice e4 p.clauses.length c4) p := by rw [hw3]; exact (Qa S2).b.call (Kp.set _ _ _ _)
   have HLN := hide (Qa S2).ln
   have H3 := hide (Ya h3 G3)
   have HW3 := hide hw3
   by_cases h96 : 96 < i1 + 1
   ·
    have g96 : (96 : Int) < (i1 : Int) + 1 := by omega
    have hfl := Qax h3 (why := 3) (by decide)
    clear h96 h3 G3 hw3
    go_wp2_with fail
    rw [← Qa HW3]
    clear HW3 q_0 q_1 q_2 q_3 q_4 q_5 qf
    refine hfl.mono ?_
    clear hfl
    rintro en wf ⟨_, af, jf, y4, f4, rfl, rfl, ⟨ea, ei, hY4⟩, hf, kf⟩
    rw [ea, ei] at hf
    clear ea ei
    have HNY := hide hY4
    have S3 : Hid (StP rb g cap l w d i a y pb wf (.slice e0 p.types.length c0) (.slice e1 p.decls.length c1) (.slice e2 p.comps.length c2) (.slice e3 p.inits.length c3) (.slice e4 p.clauses.length c4) p a1 (i1 + 1) y4 f4) := ⟨hf, (Qa H3).2.call kf, (Qa S2).le, by have := (Qa S2).ile; omega, by omega, fun e => absurd e hY4, by have := (Qa S2).ln; omega⟩
    clear hY4 hf kf i96 H3
    have hcl := Qak (Qa S3).r (Qa HT)
    unfold tkA at hcl
    go_wp2_with fail
    refine hcl.mono ?_
    clear hcl
    rintro en w4 ⟨rfl, b4⟩
    have S4 := hide ((Qa S3).call (Kp.of_below b4) ((Qa S3).r.later b4))
    clear b4
    go_wp2_with fail
    rename_i hK
    refine hK _ _ ?_
    clear hK
    have hmy := Qb (Qa S4).r ⟨#[46, 116, 121, 112, 101]⟩
    go_wp2_with fail
    refine hmy.mono ?_
    clear hmy
    rintro en w5 ⟨b, a5, f5, rfl, hb1, hb0, h5, k5⟩
    cases b with
    | true => exact absurd (hb1 rfl).1 (Qa HNY)
    | false =>
     have S5 := hide ((Qa S4).call k5 (hb0 rfl ▸ h5))
     clear hb1 hb0 h5 k5
     have hmy := Qb (Qa S5).r ⟨#[46, 100, 101, 99, 108]⟩
     go_wp2_with fail
     refine hmy.mono ?_
     clear hmy
     rintro en wD ⟨b, a6, f6, rfl, hb1, hb0, h6, k6⟩
     cases b with
     | true => exact absurd (hb1 rfl).1 (Qa HNY)
     | false =>
      have S6 := hide ((Qa S5).call k6 (hb0 rfl ▸ h6))
      clear hb1 hb0 h6 k6
      have hmy := Qby (Qa S6).r ⟨#[46, 99, 111, 109, 112]⟩
      go_wp2_with fail
      refine hmy.mono ?_
      clear hmy
      rintro en w7 ⟨b, rfl, hb, b7⟩
      cases b with
      | true => exact absurd (hb rfl).1 (Qa HNY)
      | false =>
       have S7 := hide ((Qa S6).call (Kp.of_below b7) ((Qa S6).r.later b7))
       clear hb b7
       have hmy := Qb (Qa S7).r ⟨#[46, 105, 110, 105, 116]⟩
       go_wp2_with fail
       refine hmy.mono ?_
       clear hmy
       rintro en wL ⟨b, a8, f8, rfl, hb1, hb0, h8, k8⟩
       cases b with
       | true => exact absurd (hb1 rfl).1 (Qa HNY)
       | false =>
        have S8 := hide ((Qa S7).call k8 (hb0 rfl ▸ h8))
        clear hb1 hb0 h8 k8
        have HAX := hide (Nat.le_refl a1)
        have HYX := hide (show y4 = 0 → y = 0 ∧ i1 + 1 ≤ 96 from fun e => absurd e (Qa HNY))
        have SD := hide ((Qa S8).call (W' := wL.drew) (Kp.of_below (Below.refl _ wL).drew) ((Qa S8).r.later (Below.refl _ wL).drew))
        have hcl := Qfw (Qa SD).r (by have := Qa HD (Qa HY); omega)
        go_wp2_with fail
        refine Qam (m := 7) (ml := [(0, 1), (1, 2), (2, 1), (3, 0), (4, 0), (5, 0), (6, 1), (7, 0)]) (fun ff w' => ff = false → w'.heap[pb]? = some (.cells #[.slice e0 p.types.length c0, .slice e1 p.decls.length c1, .slice e2 p.comps.length c2, .slice e3 p.inits.length c3, .slice e4 p.clauses.length c4] 28 (0, 0))) mixedO (by kernel_rfl) rfl (by rfl) (by kernel_rfl) (fun PP hPP => ?_)
        refine Qad rfl (by kernel_rfl) (fun _ _ _ => by go_simp <;> rfl) ?_
        refine Qaq (v := ?_) rfl (by kernel_rfl) (fun w' hw => ?_) ?_
        rotate_left
        · (obtain ⟨z_0, z_1, z_2, z_3, z_4, zf⟩ := cl5 (hw rfl); go_simp <;> rfl)
        refine Qad rfl (by kernel_rfl) (fun _ _ _ => by go_simp <;> rfl) ?_
        refine Qaa rfl (fun _ => (Qa SD).b.p5.box) (fun K hK => ?_)
        go_simp
        refine hcl.mono ?_
        clear hcl
        rintro en w6 ⟨_, a6, i6, y6, f6, rfl, ⟨x, aa, an, ac, ba, bn, bc, rfl, hX⟩, ⟨ei, ha6, hy6⟩, h6, k6⟩
        rw [ei] at h6
        clear ei
        show K _ _
        refine hK _ _ ?_
        clear hK K
        have sD := Qa SD
        have hx1 := sD.b.x1
        have hr1 := sD.b.r1
        obtain ⟨ga, gc, w8, hrun, bx8, G9, R9⟩ := sD.b.more4 k6 h6 (x := x) (cs := [str x.head.rel, .slice aa an ac, .int .i64 x.head.at_, .slice ba bn bc, .int .i64 x.at_]) rfl (by simp [Value.oneCell', str]) ⟨_, _, _, _, _, _, rfl, hX.1, hX.2⟩ (by have := sD.i97; have := sD.ln; simp only [lenP] at this; omega)
        obtain ⟨w7, hw7⟩ : ∃ w7, w7 = w6.alloc (.cells #[str x.head.rel, .slice aa an ac, .int .i64 x.head.at_, .slice ba bn bc, .int .i64 x.at_] 78) := ⟨_, rfl⟩
        have b7 : Below w6.heap.size w6 w7 := by rw [hw7]; exact (Below.refl _ w6).alloc (Nat.le_refl _) _
        have bx6 := k6.keep sD.b.p5.box (by omega)
        have HC6 := hide bx6
        have HC7 := hide ((b7.block _ (Qab bx6)).trans bx6)
        have HC8 := hide bx8
        obtain ⟨u_0, u_1, u_2, u_3, u_4, uf⟩ := cl5 bx8
        have hrun' : (Builtin.append_ #[26, 26] 26 #[.slice e4 p.clauses.length c4, .slice (some ⟨w6.heap.size, 0, none⟩) 1 1]).run Try.prog w7 = .ok (.slice (some ⟨ga, 0, none⟩) (p.clauses.length + 1) gc) w8 := by rw [hw7]; exact hrun
        have HW7 := hide hw7
        have m1 : StP rb g cap l w d i a y pb (w8.setCell ⟨pb, 4, none⟩ (.slice (some ⟨ga, 0, none⟩) (p.clauses.length + 1) gc)) (.slice e0 p.types.length c0) (.slice e1 p.decls.length c1) (.slice e2 p.comps.length c2) (.slice e3 p.inits.length c3) (.slice (some ⟨ga, 0, none⟩) (p.clauses.length + 1) gc) (.mk p.types p.decls p.comps p.inits (p.clauses ++ [x])) a6 (i1 + 1) y6 f6 := ⟨R9, G9, by have := sD.le; omega, by have := sD.ile; omega, sD.i97, fun e => ⟨(Qa HYX (hy6 e).1).1, (Qa HYX (hy6 e).1).2⟩, by have := Qa HLN; simp [lenP, Pg.types, Pg.decls, Pg.comps, Pg.inits, Pg.clauses] at this ⊢; omega⟩
        have HE := hide (Ya m1 (show y6 = 0 → a1 < a6 from fun e => by have := Qa HAX; have := (hy6 e).2; omega))
        clear hX ha6 hy6 h6 k6 hrun hw7 b7 bx6 bx8 G9 R9 m1 sD hx1 hr1
        refine Qaa rfl (fun _ => Qa HC6) (fun K hK => ?_)
        go_simp
        rw [← Qa HW7]
        clear HW7
        refine hK _ _ ?_
        clear hK K
        refine Qaa rfl (fun _ => Qa HC7) (fun K hK => Qas rfl _ _ 26 rfl _ _ rfl rfl hrun' (hK _ _ ?_))
        clear hK K hrun'
        refine Qad rfl (by kernel_rfl) (fun _ _ _ => by go_simp <;> rfl) ?_
        refine Qaa rfl (fun _ => Qa HC8) (fun K hK => ?_)
        go_simp
        refine hK _ _ ?_
        clear hK K
        refine Qap (fun h => by cases h) (hPP _ _ ?_)
        clear hPP PP
        go_wp2_with fail
        go_roundw
        case rel =>
         obtain ⟨m1, m2⟩ := Qa HE
         exact ⟨(.mk p.types p.decls p.comps p.inits (p.clauses ++ [x])), _, _, _, _, _, _, _, _, _, _, a6, (i1 + 1), y6, f6, hide (by simpa [Pg.types, Pg.decls, Pg.comps, Pg.inits, Pg.clauses] using m1), hide (fun _ hne => Qek (Qa WFI (Qa HY) hne) rfl)⟩
        obtain ⟨m1, m2⟩ := Qa HE
        rw [Qai (Qa HI).r l.length, Qai m1.r l.length, if_pos (Qa HY)]
        have q1 := (Qa HI).r.lt
        have q2 := m1.r.lt
        split
        ·
         rename_i e
         have := m2 e
         omega
        · omega
   have g96 : ¬ ((96 : Int) < (i1 : Int) + 1) := by omega
   have S3 : Hid (StP rb g cap l w d i a y pb w3 (.slice e0 p.types.length c0) (.slice e1 p.decls.length c1) (.slice e2 p.comps.length c2) (.slice e3 p.inits.length c3) (.slice e4 p.clauses.length c4) p a1 (i1 + 1) y1 f1) := ⟨h3, G3, (Qa S2).le, by have := (Qa S2).ile; omega, by omega, fun e => ⟨((Qa S2).y0 e).1, by omega⟩, by have := (Qa S2).ln; omega⟩
   have hcl := Qak (Qa S3).r (Qa HT)
   unfold tkA at hcl
   clear h96 h3 G3 hw3 i96 H3
   go_wp2_with fail
   rw [← Qa HW3]
   clear HW3 q_0 q_1 q_2 q_3 q_4 q_5 qf
   refine hcl.mono ?_
   clear hcl
   rintro en w4 ⟨rfl, b4⟩
   have S4 := hide ((Qa S3).call (Kp.of_below b4) ((Qa S3).r.later b4))
   clear b4
   go_wp2_with fail
   rename_i hK
   refine hK _ _ ?_
   clear hK
   have hmy := Qb (Qa S4).r ⟨#[46, 116, 121, 112, 101]⟩
   go_wp2_with fail
   refine hmy.mono ?_
   clear hmy
   rintro en w5 ⟨b, a5, f5, rfl, hb1, hb0, h5, k5⟩
   cases b
   ·
    have S5 := hide ((Qa S4).call k5 (hb0 rfl ▸ h5))
    clear hb1 hb0 h5 k5
    have hmy := Qb (Qa S5).r ⟨#[46, 100, 101, 99, 108]⟩
    go_wp2_with fail
    refine hmy.mono ?_
    clear hmy
    rintro en wD ⟨b, aD, fD, rfl, hb1, hb0, hD, kD⟩
    cases b
    ·
     have S6 := hide ((Qa S5).call kD (hb0 rfl ▸ hD))
     clear hb1 hb0 hD kD
     have hmy := Qby (Qa S6).r ⟨#[46, 99, 111, 109, 112]⟩
     go_wp2_with fail
     refine hmy.mono ?_
     clear hmy
     rintro en w7 ⟨b, rfl, hb, b7⟩
     cases b
     ·
      have S7 := hide ((Qa S6).call (Kp.of_below b7) ((Qa S6).r.later b7))
      clear hb b7
      have hmy := Qb (Qa S7).r ⟨#[46, 105, 110, 105, 116]⟩
      go_wp2_with fail
      refine hmy.mono ?_
      clear hmy
      rintro en wL ⟨b, a8, f8, rfl, hb1, hb0, h8, k8⟩
      cases b
      ·
       have S8 := hide ((Qa S7).call k8 (hb0 rfl ▸ h8))
       have HAX := hide (Nat.le_refl a1)
       have HYX := hide (show y1 = 0 → y = 0 ∧ i1 + 1 ≤ 96 from (Qa S8).y0)
       clear hb1 hb0 h8 k8
       have SD := hide ((Qa S8).call (W' := wL.drew) (Kp.of_below (Below.refl _ wL).drew) ((Qa S8).r.later (Below.refl _ wL).drew))
       have hcl := Qfw (Qa SD).r (by have := Qa HD (Qa HY); omega)
       go_wp2_with fail
       refine Qam (m := 7) (ml := [(0, 1), (1, 2), (2, 1), (3, 0), (4, 0), (5, 0), (6, 1), (7, 0)]) (fun ff w' => ff = false → w'.heap[pb]? = some (.cells #[.slice e0 p.types.length c0, .slice e1 p.decls.length c1, .slice e2 p.comps.length c2, .slice e3 p.inits.length c3, .slice e4 p.clauses.length c4] 28 (0, 0))) mixedO (by kernel_rfl) rfl (by rfl) (by kernel_rfl) (fun PP hPP => ?_)
       refine Qad rfl (by kernel_rfl) (fun _ _ _ => by go_simp <;> rfl) ?_
       refine Qaq (v := ?_) rfl (by kernel_rfl) (fun w' hw => ?_) ?_
       rotate_left
       · (obtain ⟨z_0, z_1, z_2, z_3, z_4, zf⟩ := cl5 (hw rfl); go_simp <;> rfl)
       refine Qad rfl (by kernel_rfl) (fun _ _ _ => by go_simp <;> rfl) ?_
       refine Qaa rfl (fun _ => (Qa SD).b.p5.box) (fun K hK => ?_)
       go_simp
       refine hcl.mono ?_
       clear hcl
       rintro en w6 ⟨_, a6, i6, y6, f6, rfl, ⟨x, aa, an, ac, ba, bn, bc, rfl, hX⟩, ⟨ei, ha6, hy6⟩, h6, k6⟩
       rw [ei] at h6
       clear ei
       show K _ _
       refine hK _ _ ?_
       clear hK K
       have sD := Qa SD
       have hx1 := sD.b.x1
       have hr1 := sD.b.r1
       obtain ⟨ga, gc, w8, hrun, bx8, G9, R9⟩ := sD.b.more4 k6 h6 (x := x) (cs := [str x.head.rel, .slice aa an ac, .int .i64 x.head.at_, .slice ba bn bc, .int .i64 x.at_]) rfl (by simp [Value.oneCell', str]) ⟨_, _, _, _, _, _, rfl, hX.1, hX.2⟩ (by have := sD.i97; have := sD.ln; simp only [lenP] at this; omega)
       obtain ⟨w7, hw7⟩ : ∃ w7, w7 = w6.alloc (.cells #[str x.head.rel, .slice aa an ac, .int .i64 x.head.at_, .slice ba bn bc, .int .i64 x.at_] 78) := ⟨_, rfl⟩
       have b7 : Below w6.heap.size w6 w7 := by rw [hw7]; exact (Below.refl _ w6).alloc (Nat.le_refl _) _
       have bx6 := k6.keep sD.b.p5.box (by omega)
       have HC6 := hide bx6
       have HC7 := hide ((b7.block _ (Qab bx6)).trans bx6)
       have HC8 := hide bx8
       obtain ⟨u_0, u_1, u_2, u_3, u_4, uf⟩ := cl5 bx8
       have hrun' : (Builtin.append_ #[26, 26] 26 #[.slice e4 p.clauses.length c4, .slice (some ⟨w6.heap.size, 0, none⟩) 1 1]).run Try.prog w7 = .ok (.slice (some ⟨ga, 0, none⟩) (p.clauses.length + 1) gc) w8 := by rw [hw7]; exact hrun
       have HW7 := hide hw7
       have m1 : StP rb g cap l w d i a y pb (w8.setCell ⟨pb, 4, none⟩ (.slice (some ⟨ga, 0, none⟩) (p.clauses.length + 1) gc)) (.slice e0 p.types.length c0) (.slice e1 p.decls.length c1) (.slice e2 p.comps.length c2) (.slice e3 p.inits.length c3) (.slice (some ⟨ga, 0, none⟩) (p.clauses.length + 1) gc) (.mk p.types p.decls p.comps p.inits (p.clauses ++ [x])) a6 (i1 + 1) y6 f6 := ⟨R9, G9, by have := sD.le; omega, by have := sD.ile; omega, sD.i97, fun e => ⟨(Qa HYX (hy6 e).1).1, (Qa HYX (hy6 e).1).2⟩, by have := Qa HLN; simp [lenP, Pg.types, Pg.decls, Pg.comps, Pg.inits, Pg.clauses] at this ⊢; omega⟩
       have HE := hide (Ya m1 (show y6 = 0 → a1 < a6 from fun e => by have := Qa HAX; have := (hy6 e).2; omega))
       clear hX ha6 hy6 h6 k6 hrun hw7 b7 bx6 bx8 G9 R9 m1 sD hx1 hr1
       refine Qaa rfl (fun _ => Qa HC6) (fun K hK => ?_)
       go_simp
       rw [← Qa HW7]
       clear HW7
       refine hK _ _ ?_
       clear hK K
       refine Qaa rfl (fun _ => Qa HC7) (fun K hK => Qas rfl _ _ 26 rfl _ _ rfl rfl hrun' (hK _ _ ?_))
       clear hK K hrun'
       refine Qad rfl (by kernel_rfl) (fun _ _ _ => by go_simp <;> rfl) ?_
       refine Qaa rfl (fun _ => Qa HC8) (fun K hK => ?_)
       go_simp
       refine hK _ _ ?_
       clear hK K
       refine Qap (fun h => by cases h) (hPP _ _ ?_)
       clear hPP PP
       go_wp2_with fail
       go_roundw
       case rel =>
        obtain ⟨m1, m2⟩ := Qa HE
        exact ⟨(.mk p.types p.decls p.comps p.inits (p.clauses ++ [x])), _, _, _, _, _, _, _, _, _, _, a6, (i1 + 1), y6, f6, hide (by simpa [Pg.types, Pg.decls, Pg.comps, Pg.inits, Pg.clauses] using m1), hide (fun _ hne => Qek (Qa WFI (Qa HY) hne) rfl)⟩
       obtain ⟨m1, m2⟩ := Qa HE
       rw [Qai (Qa HI).r l.length, Qai m1.r l.length, if_pos (Qa HY)]
       have q1 := (Qa HI).r.lt
       have q2 := m1.r.lt
       split
       ·
        rename_i e
        have := m2 e
        omega
       · omega
      have e8 := (hb1 rfl).2
      subst e8
      have S8 := hide ((Qa S7).mayT k8 h8)
      have HAX := hide (show a1 < a1 + 1 by omega)
      have HYX := hide (show y1 = 0 → y = 0 ∧ i1 + 1 ≤ 96 from (Qa S7).y0)
      clear hb1 hb0 h8 k8
      have hwd := Qbz (Qa S8).r
      go_wp2_with fail
      refine hwd.mono ?_
      clear hwd
      rintro en w9 ⟨_, a9, i9, y9, f9, rfl, ⟨x9, rfl⟩, ⟨ei, ha9, hy9⟩, h9, k9⟩
      rw [ei] at h9
      clear ei
      obtain ⟨ib, hib⟩ : ∃ ib, w9.heap.size = ib := ⟨_, rfl⟩
      obtain ⟨w10, hw10⟩ : ∃ w10, w10 = w9.alloc (.cells #[str x9, .string ⟨#[]⟩, .int .i64 (t.at_ : Int)] 45) := ⟨_, rfl⟩
      have b10 : Below w9.heap.size w9 w10 := by rw [hw10]; exact (Below.refl _ w9).alloc (Nat.le_refl _) _
      have n10 : w10.heap[ib]? = some (.cells #[str x9, .string ⟨#[]⟩, .int .i64 (t.at_ : Int)] 45 (0, 0)) := by rw [hw10, ← hib]; exact heap_alloc_new w9 _
      have hms := Qbd (h9.later b10) ⟨#[61]⟩
      have K10 := hide (Ya (k9.trans (Kp.of_below b10)) (Ya n10 (Ya (show wL.heap.size ≤ ib by have := k9.size; omega) (Ya ha9 hy9))))
      have HW10 := hide (Ya hw10 hib)
      clear ha9 hy9 h9 k9 hib hw10 b10 n10
      go_wp2_with fail
      rw [← (Qa HW10).1, (Qa HW10).2]
      clear HW10
      refine hms.mono ?_
      clear hms
      rintro en w11 ⟨_, a11, i11, y11, f11, rfl, rfl, ⟨ei, ha11, hy11⟩, h11, k11⟩
      rw [ei] at h11
      clear ei
      have hnm := Qdi h11
      have K11 := hide (Ya k11 (Ya ha11 hy11))
      clear ha11 hy11 h11 k11
      go_wp2_with fail
      refine hnm.mono ?_
      clear hnm
      rintro en w12 ⟨_, a12, i12, y12, f12, rfl, ⟨x12, rfl⟩, ⟨ei, ha12, hy12⟩, h12, k12⟩
      rw [ei] at h12
      clear ei
      obtain ⟨k10, n10, hib, ha9, hy9⟩ := Qa K10
      obtain ⟨k11, ha11, hy11⟩ := Qa K11
      have s8 := Qa S8
      have hx1 := s8.b.x1
      have hr1 := s8.b.r1
      have hg1 := s8.b.g1
      have hpl := Qab s8.b.p5.box
      have n12 := k12.keep (k11.keep n10 (by omega)) (by omega)
      obtain ⟨w13, hw13⟩ : ∃ w13, w13 = w12.setCell ⟨ib, 1, none⟩ (str x12) := ⟨_, rfl⟩
      have n13 : w13.heap[ib]? = some (.cells #[str x9, str x12, .int .i64 (t.at_ : Int)] 45 (0, 0)) := by rw [hw13]; exact (Qah n12 1 _).trans rfl
      have h13 : Rr rb g cap l w13 a12 d (i1 + 1) y12 f12 := by rw [hw13]; exact h12.atBox ⟨by omega, by omega⟩ 1 _
      have s13 : w13.heap.size = w12.heap.size := by rw [hw13]; simp
      have k13 : Kp rb wL w13 := by rw [hw13]; exact ((k10.trans k11).trans k12).set2 hib
      have bx13 := k13.keep s8.b.p5.box (by omega)
      obtain ⟨ga, gc, w14, hrun, bx14, G15, R15⟩ := s8.b.more3 k13 h13 (x := ⟨x9, x12, t.at_⟩) (cs := [str x9, str x12, .int .i64 (t.at_ : Int)]) rfl (by simp [Value.oneCell', str]) rfl (by have := s8.i97; have := s8.ln; simp only [lenP] at this; omega)
      obtain ⟨x_0, x_1, x_2, x_3, x_4, xf⟩ := cl5 bx13
      obtain ⟨u_0, u_1, u_2, uf⟩ := cl3 n12
      obtain ⟨v_0, v_1, v_2, vf⟩ := cl3 n13
      obtain ⟨z_0, z_1, z_2, z_3, z_4, zf⟩ := cl5 bx14
      have m1 : StP rb g cap l w d i a y pb (w14.setCell ⟨pb, 3, none⟩ (.slice (some ⟨ga, 0, none⟩) (p.inits.length + 1) gc)) (.slice e0 p.types.length c0) (.slice e1 p.decls.length c1) (.slice e2 p.comps.length c2) (.slice (some ⟨ga, 0, none⟩) (p.inits.length + 1) gc) (.slice e4 p.clauses.length c4) (.mk p.types p.decls p.comps (p.inits ++ [⟨x9, x12, t.at_⟩]) p.clauses) a12 (i1 + 1) y12 f12 := ⟨R15, G15, by have := s8.le; omega, by have := s8.ile; omega, s8.i97, fun e => ⟨(Qa HYX (hy9 (hy11 (hy12 e).1).1).1).1, (Qa HYX (hy9 (hy11 (hy12 e).1).1).1).2⟩, by have := Qa HLN; simp [lenP, Pg.types, Pg.decls, Pg.comps, Pg.inits, Pg.clauses] at this ⊢; omega⟩
      have HE := hide (Ya m1 (show y12 = 0 → a1 < a12 from fun e => by have := Qa HAX; have := (hy12 e).2; omega))
      rw [s13] at hrun
      rw [hw13] at hrun x_3 v_0 v_1 v_2
      have HRUN := hide hrun
      clear k10 n10 hib ha9 hy9 k11 ha11 hy11 s8 hx1 hr1 hg1 hpl n12 hw13 n13 h13 s13 k13 bx13 hrun bx14 G15 R15 m1 h12 k12 ha12 hy12 x_0 x_1 x_2 x_4 xf
      go_wp2_with (at_builtin; refine Qaj _ rfl _ _ 25 rfl _ _ rfl rfl _ _ (Qa HRUN) ?_; clear HRUN)
      go_roundw
      case rel =>
       obtain ⟨m1, m2⟩ := Qa HE
       exact ⟨(.mk p.types p.decls p.comps (p.inits ++ [⟨x9, x12, t.at_⟩]) p.clauses), _, _, _, _, _, _, _, _, _, _, a12, (i1 + 1), y12, f12, hide (by simpa [Pg.types, Pg.decls, Pg.comps, Pg.inits, Pg.clauses] using m1), hide (fun _ hne => Qek (Qa WFI (Qa HY) hne) rfl)⟩
      obtain ⟨m1, m2⟩ := Qa HE
      rw [Qai (Qa HI).r l.length, Qai m1.r l.length, if_pos (Qa HY)]
      have q1 := (Qa HI).r.lt
      have q2 := m1.r.lt
      split
      ·
       rename_i e
       have := m2 e
       omega
      · omega
     obtain ⟨hbY, hbA⟩ := hb rfl
     have hen := Qeu ((Qa S6).r.later b7) (by have := (Qa HD (Qa HY)); omega)
     have K7 := hide (Ya b7 hbA)
     clear hb b7 hbY hbA
     go_wp2_with fail
     refine hen.mono ?_
     clear hen
     rintro en w8 ⟨_, a8, i8, y8, f8, rfl, rfl, ⟨ea, ei, hy8⟩, h8, k8⟩
     rw [ea, ei] at h8
     clear ea ei
     obtain ⟨t8, ht8⟩ := h8.tok
     have htk := Qau h8 ht8
     have K8 := hide (Ya k8 hy8)
     clear h8 k8 hy8 ht8
     go_wp2_with fail
     refine htk.mono ?_
     clear htk
     rintro en w9 ⟨_, a9, i9, y9, f9, rfl, rfl, ⟨ei, ey, hY9⟩, h9, k9⟩
     rw [ei, ey] at h9
     clear ei ey
     obtain ⟨b7, hbA⟩ := Qa K7
     obtain ⟨k8, hy8⟩ := Qa K8
     have s6 := Qa S6
     have e9 : y8 = 0 → a9 = a1 + 1 := fun e => by
      rcases hY9 with ⟨_, _, e2⟩ | ⟨_, hn⟩
      · exact e2
      · exact absurd hbA (hn e)
     have ea9 : a1 ≤ a9 := by rcases hY9 with ⟨_, _, e2⟩ | ⟨e2, _⟩ <;> omega
     have S9 : Hid (StP rb g cap l w (d + 1) i a y pb w9 (.slice e0 p.types.length c0) (.slice e1 p.decls.length c1) (.slice e2 p.comps.length c2) (.slice e3 p.inits.length c3) (.slice e4 p.clauses.length c4) p a9 (i1 + 1) y8 f9) := ⟨h9, s6.b.call (((Kp.of_below b7).trans k8).trans k9), by have := s6.le; omega, by have := s6.ile; omega, s6.i97, fun e => s6.y0 (hy8 e).1, s6.ln⟩
     have HAX := hide (show y8 = 0 → a1 < a9 from fun e => by have := e9 e; omega)
     have HYX := hide (show y8 = 0 → y = 0 ∧ i1 + 1 ≤ 96 from fun e => s6.y0 (hy8 e).1)
     have HDX := hide (show y8 = 0 → d + 1 ≤ 32 from fun e => by have := (hy8 e).2; omega)
     clear b7 hbA k8 hy8 s6 e9 ea9 h9 k9 hY9
     have SD := hide ((Qa S9).call (W' := w9.drew) (Kp.of_below (Below.refl _ w9).drew) ((Qa S9).r.later (Below.refl _ w9).drew))
     have hcl := Qpx (Qa SD).r (Qa SD).i97 (fun e => ⟨(Qa HYX e).2, Qa HDX e⟩) (Qa HN (Qa HD (Qa HY))) (t.at_ : Int)
     go_wp2_with fail
     refine Qam (m := 8) (ml := mLRpw0) (fun ff w' => ff = false → w'.heap[pb]? = some (.cells #[.slice e0 p.types.length c0, .slice e1 p.decls.length c1, .slice e2 p.comps.length c2, .slice e3 p.inits.length c3, .slice e4 p.clauses.length c4] 28 (0, 0))) mixedO (by kernel_rfl) rfl (by rfl) (by kernel_rfl) (fun PP hPP => ?_)
     refine Qad rfl (by kernel_rfl) (fun _ _ _ => by go_simp <;> rfl) ?_
     refine Qaq (v := ?_) rfl (by kernel_rfl) (fun w' hw => ?_) ?_
     rotate_left
     · (obtain ⟨z_0, z_1, z_2, z_3, z_4, zf⟩ := cl5 (hw rfl); go_simp <;> rfl)
     refine Qad rfl (by kernel_rfl) (fun _ _ _ => by go_simp <;> rfl) ?_
     refine Qad rfl (by kernel_rfl) (fun _ _ _ => by go_simp <;> rfl) ?_
     refine Qaa rfl (fun _ => (Qa SD).b.p5.box) (fun K hK => ?_)
     go_simp
     refine hcl.mono ?_
     clear hcl
     rintro en w6 ⟨_, a6, i6, y6, f6, rfl, ⟨x, ba, bn, bc, r0, s0, t0, r1, s1, t1, r2, s2, t2, r3, s3, t3, r4, s4, t4, rfl, hX⟩, ⟨ha6, hi6, hi7, hy6⟩, h6, k6⟩
     show K _ _
     refine hK _ _ ?_
     clear hK K
     have sD := Qa SD
     have hx1 := sD.b.x1
     have hr1 := sD.b.r1
     obtain ⟨ga, gc, w8, hrun, bx8, G9, R9⟩ := sD.b.more2 k6 h6 (x := x) (cs := [str x.1, .slice ba bn bc, .slice r0 s0 t0, .slice r1 s1 t1, .slice r2 s2 t2, .slice r3 s3 t3, .slice r4 s4 t4, .int .i64 x.2.2.2]) rfl (Qnt hX) hX (by have := sD.i97; have := sD.ln; simp only [lenP] at this; omega)
     obtain ⟨w7, hw7⟩ : ∃ w7, w7 = w6.alloc (.cells #[str x.1, .slice ba bn bc, .slice r0 s0 t0, .slice r1 s1 t1, .slice r2 s2 t2, .slice r3 s3 t3, .slice r4 s4 t4, .int .i64 x.2.2.2] 40) := ⟨_, rfl⟩
     have b7 : Below w6.heap.size w6 w7 := by rw [hw7]; exact (Below.refl _ w6).alloc (Nat.le_refl _) _
     have bx6 := k6.keep sD.b.p5.box (by omega)
     have HC6 := hide bx6
     have HC7 := hide ((b7.block _ (Qab bx6)).trans bx6)
     have HC8 := hide bx8
     obtain ⟨u_0, u_1, u_2, u_3, u_4, uf⟩ := cl5 bx8
     have hrun' : (Builtin.append_ #[24, 24] 24 #[.slice e2 p.comps.length c2, .slice (some ⟨w6.heap.size, 0, none⟩) 1 1]).run Try.prog w7 = .ok (.slice (some ⟨ga, 0, none⟩) (p.comps.length + 1) gc) w8 := by rw [hw7]; exact hrun
     have HW7 := hide hw7
     have hdd := R9.dd
     have hsb : IntKind.i64.wrap ((d : Int) + 1 - 1) = (d : Int) := by rw [show (d : Int) + 1 - 1 = (d : Int) by omega]; exact Qck d (by omega)
     obtain ⟨w9, hw9⟩ : ∃ w9, w9 = w8.setCell ⟨pb, 2, none⟩ (.slice (some ⟨ga, 0, none⟩) (p.comps.length + 1) gc) := ⟨_, rfl⟩
     rw [← hw9] at G9 R9
     obtain ⟨q_0, q_1, q_2, q_3, q_4, q_5, qf⟩ := cl6 R9.box
     have R10 : Rr rb g cap l (w9.setCell ⟨rb, 2, none⟩ (.int .i64 (d : Int))) a6 d i6 y6 f6 := R9.setD (by omega)
     have m1 : StP rb g cap l w d i a y pb (w9.setCell ⟨rb, 2, none⟩ (.int .i64 (d : Int))) (.slice e0 p.types.length c0) (.slice e1 p.decls.length c1) (.slice (some ⟨ga, 0, none⟩) (p.comps.length + 1) gc) (.slice e3 p.inits.length c3) (.slice e4 p.clauses.length c4) (.mk p.types p.decls (p.comps ++ [x]) p.inits p.clauses) a6 i6 y6 f6 := ⟨R10, G9.call (Kp.set _ _ _ _), by have := sD.le; omega, by have := sD.ile; omega, hi7, fun e => ⟨(Qa HYX (hy6 e).1).1, (hy6 e).2⟩, by have := Qa HLN; simp [lenP, Pg.types, Pg.decls, Pg.comps, Pg.inits, Pg.clauses] at this ⊢; omega⟩
     have HE := hide (Ya m1 (show y6 = 0 → a1 < a6 from fun e => by have := Qa HAX (hy6 e).1; omega))
     have HW9 := hide hw9
     clear hw9 R10
     clear hX ha6 hi6 hi7 hy6 h6 k6 hrun hw7 b7 bx6 bx8 G9 R9 m1 sD hx1 hr1
     refine Qaa rfl (fun _ => Qa HC6) (fun K hK => ?_)
     go_simp
     rw [← Qa HW7]
     clear HW7
     refine hK _ _ ?_
     clear hK K
     refine Qaa rfl (fun _ => Qa HC7) (fun K hK => Qas rfl _ _ 24 rfl _ _ rfl rfl hrun' (hK _ _ ?_))
     clear hK K hrun'
     refine Qad rfl (by kernel_rfl) (fun _ _ _ => by go_simp <;> rfl) ?_
     refine Qaa rfl (fun _ => Qa HC8) (fun K hK => ?_)
     go_simp
     refine hK _ _ ?_
     clear hK K
     refine Qap (fun h => by cases h) (hPP _ _ ?_)
     clear hPP PP
     rw [← Qa HW9]
     clear HW9
     go_wp2_with fail
     go_roundw
     case rel =>
      obtain ⟨m1, m2⟩ := Qa HE
      exact ⟨(.mk p.types p.decls (p.comps ++ [x]) p.inits p.clauses), _, _, _, _, _, _, _, _, _, _, a6, i6, y6, f6, hide (by simpa [Pg.types, Pg.decls, Pg.comps, Pg.inits, Pg.clauses] using m1), hide (fun _ hne => Qek (Qa WFI (Qa HY) hne) rfl)⟩
     obtain ⟨m1, m2⟩ := Qa HE
     rw [Qai (Qa HI).r l.length, Qai m1.r l.length, if_pos (Qa HY)]
     have q1 := (Qa HI).r.lt
     have q2 := m1.r.lt
     split
     ·
      rename_i e
      have := m2 e
      omega
     · omega
    have e6 := (hb1 rfl).2
    subst e6
    have S6 := hide ((Qa S5).mayT kD hD)
    have HAX := hide (show a1 < a1 + 1 by omega)
    have HYX := hide (show y1 = 0 → y = 0 ∧ i1 + 1 ≤ 96 from (Qa S5).y0)
    clear hb1 hb0 hD kD
    have SD := hide ((Qa S6).call (W' := wD.drew) (Kp.of_below (Below.refl _ wD).drew) ((Qa S6).r.later (Below.refl _ wD).drew))
    have hcl := Qnx (Qa SD).r (t.at_ : Int)
    go_wp2_with fail
    refine Qam (m := 8) (ml := mLRpw0) (fun ff w' => ff = false → w'.heap[pb]? = some (.cells #[.slice e0 p.types.length c0, .slice e1 p.decls.length c1, .slice e2 p.comps.length c2, .slice e3 p.inits.length c3, .slice e4 p.clauses.length c4] 28 (0, 0))) mixedO (by kernel_rfl) rfl (by rfl) (by kernel_rfl) (fun PP hPP => ?_)
    refine Qad rfl (by kernel_rfl) (fun _ _ _ => by go_simp <;> rfl) ?_
    refine Qaq (v := ?_) rfl (by kernel_rfl) (fun w' hw => ?_) ?_
    rotate_left
    · (obtain ⟨z_0, z_1, z_2, z_3, z_4, zf⟩ := cl5 (hw rfl); go_simp <;> rfl)
    refine Qad rfl (by kernel_rfl) (fun _ _ _ => by go_simp <;> rfl) ?_
    refine Qad rfl (by kernel_rfl) (fun _ _ _ => by go_simp <;> rfl) ?_
    refine Qaa rfl (fun _ => (Qa SD).b.p5.box) (fun K hK => ?_)
    go_simp
    refine hcl.mono ?_
    clear hcl
    rintro en w6 ⟨_, a6, i6, y6, f6, rfl, ⟨x, xa, xn, xc, rfl, hX⟩, ⟨ei, ha6, hy6⟩, h6, k6⟩
    rw [ei] at h6
    clear ei
    show K _ _
    refine hK _ _ ?_
    clear hK K
    have sD := Qa SD
    have hx1 := sD.b.x1
    have hr1 := sD.b.r1
    obtain ⟨ga, gc, w8, hrun, bx8, G9, R9⟩ := sD.b.more1 k6 h6 (x := x) (cs := [str x.name, .slice xa xn xc, .bool x.input, .bool x.output, .int .i64 x.at_]) rfl (by simp [Value.oneCell', str]) ⟨_, _, _, rfl, hX⟩ (by have := sD.i97; have := sD.ln; simp only [lenP] at this; omega)
    obtain ⟨w7, hw7⟩ : ∃ w7, w7 = w6.alloc (.cells #[str x.name, .slice xa xn xc, .bool x.input, .bool x.output, .int .i64 x.at_] 43) := ⟨_, rfl⟩
    have b7 : Below w6.heap.size w6 w7 := by rw [hw7]; exact (Below.refl _ w6).alloc (Nat.le_refl _) _
    have bx6 := k6.keep sD.b.p5.box (by omega)
    have HC6 := hide bx6
    have HC7 := hide ((b7.block _ (Qab bx6)).trans bx6)
    have HC8 := hide bx8
    obtain ⟨u_0, u_1, u_2, u_3, u_4, uf⟩ := cl5 bx8
    have hrun' : (Builtin.append_ #[23, 23] 23 #[.slice e1 p.decls.length c1, .slice (some ⟨w6.heap.size, 0, none⟩) 1 1]).run Try.prog w7 = .ok (.slice (some ⟨ga, 0, none⟩) (p.decls.length + 1) gc) w8 := by rw [hw7]; exact hrun
    have HW7 := hide hw7
    have m1 : StP rb g cap l w d i a y pb (w8.setCell ⟨pb, 1, none⟩ (.slice (some ⟨ga, 0, none⟩) (p.decls.length + 1) gc)) (.slice e0 p.types.length c0) (.slice (some ⟨ga, 0, none⟩) (p.decls.length + 1) gc) (.slice e2 p.comps.length c2) (.slice e3 p.inits.length c3) (.slice e4 p.clauses.length c4) (.mk p.types (p.decls ++ [x]) p.comps p.inits p.clauses) a6 (i1 + 1) y6 f6 := ⟨R9, G9, by have := sD.le; omega, by have := sD.ile; omega, sD.i97, fun e => ⟨(Qa HYX (hy6 e).1).1, (Qa HYX (hy6 e).1).2⟩, by have := Qa HLN; simp [lenP, Pg.types, Pg.decls, Pg.comps, Pg.inits, Pg.clauses] at this ⊢; omega⟩
    have HE := hide (Ya m1 (show y6 = 0 → a1 < a6 from fun e => by have := Qa HAX; have := (hy6 e).2; omega))
    clear hX ha6 hy6 h6 k6 hrun hw7 b7 bx6 bx8 G9 R9 m1 sD hx1 hr1
    refine Qaa rfl (fun _ => Qa HC6) (fun K hK => ?_)
    go_simp
    rw [← Qa HW7]
    clear HW7
    refine hK _ _ ?_
    clear hK K
    refine Qaa rfl (fun _ => Qa HC7) (fun K hK => Qas rfl _ _ 23 rfl _ _ rfl rfl hrun' (hK _ _ ?_))
    clear hK K hrun'
    refine Qad rfl (by kernel_rfl) (fun _ _ _ => by go_simp <;> rfl) ?_
    refine Qaa rfl (fun _ => Qa HC8) (fun K hK => ?_)
    go_simp
    refine hK _ _ ?_
    clear hK K
    refine Qap (fun h => by cases h) (hPP _ _ ?_)
    clear hPP PP
    go_wp2_with fail
    go_roundw
    case rel =>
     obtain ⟨m1, m2⟩ := Qa HE
     exact ⟨(.mk p.types (p.decls ++ [x]) p.comps p.inits p.clauses), _, _, _, _, _, _, _, _, _, _, a6, (i1 + 1), y6, f6, hide (by simpa [Pg.types, Pg.decls, Pg.comps, Pg.inits, Pg.clauses] using m1), hide (fun _ hne => Qek (Qa WFI (Qa HY) hne) rfl)⟩
    obtain ⟨m1, m2⟩ := Qa HE
    rw [Qai (Qa HI).r l.length, Qai m1.r l.length, if_pos (Qa HY)]
    have q1 := (Qa HI).r.lt
    have q2 := m1.r.lt
    split
    ·
     rename_i e
     have := m2 e
     omega
    · omega
   have e5 := (hb1 rfl).2
   subst e5
   have S5 := hide ((Qa S4).mayT k5 h5)
   have HAX := hide (show a1 < a1 + 1 by omega)
   have HYX := hide (show y1 = 0 → y = 0 ∧ i1 + 1 ≤ 96 from (Qa S4).y0)
   clear hb1 hb0 h5 k5
   have SD := hide ((Qa S5).call (W' := w5.drew) (Kp.of_below (Below.refl _ w5).drew) ((Qa S5).r.later (Below.refl _ w5).drew))
   have hcl := Qnz (Qa SD).r (t.at_ : Int)
   go_wp2_with fail
   refine Qam (m := 8) (ml := mLRpw0) (fun ff w' => ff = false → w'.heap[pb]? = some (.cells #[.slice e0 p.types.length c0, .slice e1 p.decls.length c1, .slice e2 p.comps.length c2, .slice e3 p.inits.length c3, .slice e4 p.clauses.length c4] 28 (0, 0))) mixedO (by kernel_rfl) rfl (by rfl) (by kernel_rfl) (fun PP hPP => ?_)
   refine Qad rfl (by kernel_rfl) (fun _ _ _ => by go_simp <;> rfl) ?_
   refine Qaq (v := ?_) rfl (by kernel_rfl) (fun w' hw => ?_) ?_
   rotate_left
   · (obtain ⟨z_0, z_1, z_2, z_3, z_4, zf⟩ := cl5 (hw rfl); go_simp <;> rfl)
   refine Qad rfl (by kernel_rfl) (fun _ _ _ => by go_simp <;> rfl) ?_
   refine Qad rfl (by kernel_rfl) (fun _ _ _ => by go_simp <;> rfl) ?_
   refine Qaa rfl (fun _ => (Qa SD).b.p5.box) (fun K hK => ?_)
   go_simp
   refine hcl.mono ?_
   clear hcl
   rintro en w6 ⟨_, a6, i6, y6, f6, rfl, ⟨x, ⟨xa, xn, xc, rfl, hX⟩, hwx⟩, ⟨ei, ha6, hy6⟩, h6, k6⟩
   rw [ei] at h6
   clear ei
   have HWX := hide (show y6 = 0 → NeT l → (x.sub = [] ↔ x.ctors ≠ []) from fun e => hwx ((Rr.ok h6).2 e))
   clear hwx
   show K _ _
   refine hK _ _ ?_
   clear hK K
   have sD := Qa SD
   have hx1 := sD.b.x1
   have hr1 := sD.b.r1
   obtain ⟨ga, gc, w8, hrun, bx8, G9, R9⟩ := sD.b.more0 k6 h6 (x := x) (cs := [str x.name, str x.sub, .slice xa xn xc, .int .i64 x.at_]) rfl (by simp [Value.oneCell', str]) ⟨_, _, _, rfl, hX⟩ (by have := sD.i97; have := sD.ln; simp only [lenP] at this; omega)
   obtain ⟨w7, hw7⟩ : ∃ w7, w7 = w6.alloc (.cells #[str x.name, str x.sub, .slice xa xn xc, .int .i64 x.at_] 68) := ⟨_, rfl⟩
   have b7 : Below w6.heap.size w6 w7 := by rw [hw7]; exact (Below.refl _ w6).alloc (Nat.le_refl _) _
   have bx6 := k6.keep sD.b.p5.box (by omega)
   have HC6 := hide bx6
   have HC7 := hide ((b7.block _ (Qab bx6)).trans bx6)
   have HC8 := hide bx8
   obtain ⟨u_0, u_1, u_2, u_3, u_4, uf⟩ := cl5 bx8
   have hrun' : (Builtin.append_ #[22, 22] 22 #[.slice e0 p.types.length c0, .slice (some ⟨w6.heap.size, 0, none⟩) 1 1]).run Try.prog w7 = .ok (.slice (some ⟨ga, 0, none⟩) (p.types.length + 1) gc) w8 := by rw [hw7]; exact hrun
   have HW7 := hide hw7
   have m1 : StP rb g cap l w d i a y pb (w8.setCell ⟨pb, 0, none⟩ (.slice (some ⟨ga, 0, none⟩) (p.types.length + 1) gc)) (.slice (some ⟨ga, 0, none⟩) (p.types.length + 1) gc) (.slice e1 p.decls.length c1) (.slice e2 p.comps.length c2) (.slice e3 p.inits.length c3) (.slice e4 p.clauses.length c4) (.mk (p.types ++ [x]) p.decls p.comps p.inits p.clauses) a6 (i1 + 1) y6 f6 := ⟨R9, G9, by have := sD.le; omega, by have := sD.ile; omega, sD.i97, fun e => ⟨(Qa HYX (hy6 e).1).1, (Qa HYX (hy6 e).1).2⟩, by have := Qa HLN; simp [lenP, Pg.types, Pg.decls, Pg.comps, Pg.inits, Pg.clauses] at this ⊢; omega⟩
   have HE := hide (Ya m1 (show y6 = 0 → a1 < a6 from fun e => by have := Qa HAX; have := (hy6 e).2; omega))
   clear hX ha6 hy6 h6 k6 hrun hw7 b7 bx6 bx8 G9 R9 m1 sD hx1 hr1
   refine Qaa rfl (fun _ => Qa HC6) (fun K hK => ?_)
   go_simp
   rw [← Qa HW7]
   clear HW7
   refine hK _ _ ?_
   clear hK K
   refine Qaa rfl (fun _ => Qa HC7) (fun K hK => Qas rfl _ _ 22 rfl _ _ rfl rfl hrun' (hK _ _ ?_))
   clear hK K hrun'
   refine Qad rfl (by kernel_rfl) (fun _ _ _ => by go_simp <;> rfl) ?_
   refine Qaa rfl (fun _ => Qa HC8) (fun K hK => ?_)
   go_simp
   refine hK _ _ ?_
   clear hK K
   refine Qap (fun h => by cases h) (hPP _ _ ?_)
   clear hPP PP
   go_wp2_with fail
   go_roundw
   case rel =>
    obtain ⟨m1, m2⟩ := Qa HE
    exact ⟨(.mk (p.types ++ [x]) p.decls p.comps p.inits p.clauses), _, _, _, _, _, _, _, _, _, _, a6, (i1 + 1), y6, f6, hide (by simpa [Pg.types, Pg.decls, Pg.comps, Pg.inits, Pg.clauses] using m1), hide (fun e hne => wfT_add (Qa WFI (Qa HY) hne) (Qa HWX e hne))⟩
   obtain ⟨m1, m2⟩ := Qa HE
   rw [Qai (Qa HI).r l.length, Qai m1.r l.length, if_pos (Qa HY)]
   have q1 := (Qa HI).r.lt
   have q2 := m1.r.lt
   split
   ·
    rename_i e
    have := m2 e
    omega
   · omega
  have g9 := Qa S2
  obtain ⟨x_0, x_1, x_2, x_3, x_4, xf⟩ := cl5 g9.b.p5.box
  obtain ⟨y_0, y_1, y_2, y_3, y_4, yf⟩ := cl5 g9.b.res
  have HF : Hid (∀ q0 q1 q2 q3 q4, RA rb g cap l w d (pgV rb l w) (PgY a i y) (.returned (.agg #[.slice e0 p.types.length c0, .slice e1 p.decls.length c1, .slice e2 p.comps.length c2, .slice e3 p.inits.length c3, .slice e4 p.clauses.length c4])) (((((w2.setCell ⟨w.heap.size, 0, none⟩ q0).setCell ⟨w.heap.size, 1, none⟩ q1).setCell ⟨w.heap.size, 2, none⟩ q2).setCell ⟨w.heap.size, 3, none⟩ q3).setCell ⟨w.heap.size, 4, none⟩ q4)) := fun q0 q1 q2 q3 q4 => by
   obtain ⟨K9, P9⟩ := g9.b.fin (W' := (((((w2.setCell ⟨w.heap.size, 0, none⟩ q0).setCell ⟨w.heap.size, 1, none⟩ q1).setCell ⟨w.heap.size, 2, none⟩ q2).setCell ⟨w.heap.size, 3, none⟩ q3).setCell ⟨w.heap.size, 4, none⟩ q4)) (by simp [World.setCell]) ⟨rfl, rfl, rfl⟩ (fun q hq => by rw [hpS hq, hpS hq, hpS hq, hpS hq, hpS hq])
   have hr1 := g9.b.r1
   have hg1 := g9.b.g1
   have hb : ∀ q, q ≠ w.heap.size → (((((w2.setCell ⟨w.heap.size, 0, none⟩ q0).setCell ⟨w.heap.size, 1, none⟩ q1).setCell ⟨w.heap.size, 2, none⟩ q2).setCell ⟨w.heap.size, 3, none⟩ q3).setCell ⟨w.heap.size, 4, none⟩ q4).heap[q]? = w2.heap[q]? := fun q hq => by rw [hpS hq, hpS hq, hpS hq, hpS hq, hpS hq]
   exact ⟨_, _, _, _, _, rfl, ⟨p, _, _, _, _, _, _, _, _, _, _, _, _, _, _, _, rfl, P9, by have h1 := g9.ln; have h2 := g9.i97; simp only [lenP] at h1; omega, fun ho hne => Qa WFI ((Qqd ((hb rb (by omega)).trans g9.r.box)).1 ho) hne⟩, ⟨g9.le, g9.ile, g9.i97, g9.y0⟩, g9.r.move (by simp [World.setCell]) (hb rb (by omega)) (hb g (by omega)), K9⟩
  clear g9
  go_wp2_with fail
  refine bodyPost_ret (v := .agg #[.slice e0 p.types.length c0, .slice e1 p.decls.length c1, .slice e2 p.comps.length c2, .slice e3 p.inits.length c3, .slice e4 p.clauses.length c4]) (by simp [results, Try.results16, go_sem, y_0, y_1, y_2, y_3, y_4]) rfl ?_
  exact Qa HF _ _ _ _ _
 rw [decide_eq_false hy] at hwl
 clear hy
 go_wp2_with fail
 refine hwl.mono ?_
 clear hwl
 rintro en wq ⟨rfl, rfl⟩
 have g9 := Qa HI
 obtain ⟨x_0, x_1, x_2, x_3, x_4, xf⟩ := cl5 g9.b.p5.box
 obtain ⟨y_0, y_1, y_2, y_3, y_4, yf⟩ := cl5 g9.b.res
 have HF : Hid (∀ q0 q1 q2 q3 q4, RA rb g cap l w d (pgV rb l w) (PgY a i y) (.returned (.agg #[.slice e0 p.types.length c0, .slice e1 p.decls.length c1, .slice e2 p.comps.length c2, .slice e3 p.inits.length c3, .slice e4 p.clauses.length c4])) (((((wq.setCell ⟨w.heap.size, 0, none⟩ q0).setCell ⟨w.heap.size, 1, none⟩ q1).setCell ⟨w.heap.size, 2, none⟩ q2).setCell ⟨w.heap.size, 3, none⟩ q3).setCell ⟨w.heap.size, 4, none⟩ q4)) := fun q0 q1 q2 q3 q4 => by
  obtain ⟨K9, P9⟩ := g9.b.fin (W' := (((((wq.setCell ⟨w.heap.size, 0, none⟩ q0).setCell ⟨w.heap.size, 1, none⟩ q1).setCell ⟨w.heap.size, 2, none⟩ q2).setCell ⟨w.heap.size, 3, none⟩ q3).setCell ⟨w.heap.size, 4, none⟩ q4)) (by simp [World.setCell]) ⟨rfl, rfl, rfl⟩ (fun q hq => by rw [hpS hq, hpS hq, hpS hq, hpS hq, hpS hq])
  have hr1 := g9.b.r1
  have hg1 := g9.b.g1
  have hb : ∀ q, q ≠ w.heap.size → (((((wq.setCell ⟨w.heap.size, 0, none⟩ q0).setCell ⟨w.heap.size, 1, none⟩ q1).setCell ⟨w.heap.size, 2, none⟩ q2).setCell ⟨w.heap.size, 3, none⟩ q3).setCell ⟨w.heap.size, 4, none⟩ q4).heap[q]? = wq.heap[q]? := fun q hq => by rw [hpS hq, hpS hq, hpS hq, hpS hq, hpS hq]
  exact ⟨_, _, _, _, _, rfl, ⟨p, _, _, _, _, _, _, _, _, _, _, _, _, _, _, _, rfl, P9, by have h1 := g9.ln; have h2 := g9.i97; simp only [lenP] at h1; omega, fun ho hne => Qa WFI ((Qqd ((hb rb (by omega)).trans g9.r.box)).1 ho) hne⟩, ⟨g9.le, g9.ile, g9.i97, g9.y0⟩, g9.r.move (by simp [World.setCell]) (hb rb (by omega)) (hb g (by omega)), K9⟩
 clear g9
 go_wp2_with fail
 refine bodyPost_ret (v := .agg #[.slice e0 p.types.length c0, .slice e1 p.decls.length c1, .slice e2 p.comps.length c2, .slice e3 p.inits.length c3, .slice e4 p.clauses.length c4]) (by simp [results, Try.results16, go_sem, y_0, y_1, y_2, y_3, y_4]) rfl ?_
 exact Qa HF _ _ _ _ _
theorem Qis {rb g cap : Nat} {l : List Tok} : ∀ (n d : Nat), d + n = 33 → PgC rb g cap l d
 | 0, d, e => Qkq (fun h => by omega)
 | n + 1, d, e => Qkq (fun _ => Qis n (d + 1) (by omega))
end
end Go.Proofs.Ytfmbpaoapjmdnaa
