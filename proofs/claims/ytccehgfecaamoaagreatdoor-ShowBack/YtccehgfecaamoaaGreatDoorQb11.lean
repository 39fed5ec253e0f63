/- syn: atom. syn: the generic list, at Fld. syn: what stands between two signs, at Fld. syn: the generic list, at Ctr. syn: fields as parts; ctor. syn: instance. -/
import Derived.Test.YtccehgfecaamoaaGreatDoorQb10
import Derived.Test.YtccehgfecaamoaaGreatDoorQb07
set_option maxRecDepth 100000
set_option maxHeartbeats 32000000
namespace Go.Proofs.YtccehgfecaamoaaGreatDoor
section
open Go.RowKit Go.Maps
theorem cl3 {w : World} {b : Nat} {T : TypeId} {v0 v1 v2 : Value} (h : w.heap[b]? = some (.cells #[v0, v1, v2] T (0, 0))) :
  w.cell? ⟨b, 0, none⟩ = some v0 ∧ w.cell? ⟨b, 1, none⟩ = some v1 ∧ w.cell? ⟨b, 2, none⟩ = some v2 ∧ ∀ o, w.frozen? ⟨b, o, none⟩ = false :=
 ⟨(Qab h 0).trans rfl, (Qab h 1).trans rfl, (Qab h 2).trans rfl, fun o => by simp [World.frozen?, h]⟩
abbrev amZ : Obj := .cells #[.string ⟨#[]⟩, .slice none 0 0, .int .i64 0] 61
def AmS (S : Nat → Prop) (w : World) (cs : List Value) (a : Atm) : Prop := ∃ xa xn xc, cs = [str a.rel, .slice xa xn xc, .int .i64 a.at_] ∧ LsAt PE 5 S w (.slice xa xn xc) a.args
def VAm (S : Nat → Prop) (w : World) (v : Value) (a : Atm) : Prop := ∃ xa xn xc, v = .agg #[str a.rel, .slice xa xn xc, .int .i64 a.at_] ∧ LsAt PE 5 S w (.slice xa xn xc) a.args

theorem Qkl {rb e dp d : Nat} (hd : dp + d = 32) {w : World} {l : List Tok} {it : Nat} (h : Rd rb e w l it dp) :
  Calls Tryz.prog 124 #[.pointer (some ⟨rb, 0, none⟩)] w fun en w' => Ans rb e dp w (fun w2 v x => VAm (fun b => w.heap.size ≤ b) w2 v x) (atomP e d l it) en w' := by
 obtain ⟨w1, hw1⟩ : ∃ w1, w1 = w.alloc amZ := ⟨_, rfl⟩
 have b1 : Below w.heap.size w w1 := bnw hw1
 have q1 : w1.heap[w.heap.size]? = some amZ := nnw hw1
 have s1 : w1.heap.size = w.heap.size + 1 := by rw [hw1]; simp
 have ha := Qau (h.later b1) 0
 unfold tokV at ha
 have hrb := h.lt
 obtain ⟨PO, hPO⟩ : ∃ PO : Ending → World → Prop, PO = fun en w' => Ans rb e dp w (fun w2 v x => VAm (fun b => w.heap.size ≤ b) w2 v x) (atomP e d l it) en w' := ⟨_, rfl⟩
 rw [← hPO]
 have HW1 : Hid (w1 = w.alloc (.cells #[.string ⟨#[]⟩, .slice none 0 0, .int .i64 0] 61)) := hw1
 have HH := hide (Ya h (Ya b1 (Ya q1 s1)))
 have HPO := hide hPO
 have HP := hide (Ya (Qqv (rb := rb) (e := e) d dp hd).1 (Qfi (e := e) d).1)
 obtain ⟨t, ht⟩ : ∃ t, t = ahd e 0 l := ⟨_, rfl⟩
 rw [← ht] at ha
 have hsg : Hid (atomP e d l it = (nmQ e l it).bind fun n l2 i => (encl e [40] [41] (exD e d).1 l2 i).map fun ks => ⟨n, ks, t.at_⟩) := by rw [ht]; rfl
 generalize atomP e d l it = sr at HPO hsg
 clear h b1 q1 s1 hw1 hPO ht hd
 go_enter Tryz.func124, Tryz.ntmps124
 go_wp2_with fail
 rw [← Qa HW1]
 refine ha.mono ?_
 clear ha
 rintro en w2 ⟨rfl, b2⟩
 obtain ⟨h, b1, q1, s1⟩ := Qa HH
 have hs2 := b2.size
 obtain ⟨w3, hw3⟩ : ∃ w3, w3 = w2.alloc (.cells #[.string ⟨#[]⟩, .slice none 0 0, .int .i64 (t.at_ : Int)] 61) := ⟨_, rfl⟩
 have b3 : Below w.heap.size w w3 := by rw [hw3]; exact (b1.trans (b2.mono (by omega))).alloc (by omega) _
 have n3 : w3.heap[w2.heap.size]? = some (.cells #[.string ⟨#[]⟩, .slice none 0 0, .int .i64 (t.at_ : Int)] 61 (0, 0)) := nnw hw3
 have q3 : w3.heap[w.heap.size]? = some amZ := by rw [hw3, Below.heap_alloc _ _ _ (by omega)]; exact (b2.block _ (by omega)).trans q1
 have s3 : w3.heap.size = w2.heap.size + 1 := by rw [hw3]; simp
 have hc := Qgf (h.later b3)
 have HW3 := hide hw3
 have K3 := hide (Ya (Kp.of_below (rb := rb) b3) (Ya n3 (Ya q3 (Ya (by omega : w.heap.size + 1 ≤ w2.heap.size) s3))))
 generalize hxb : w2.heap.size = xb at K3
 clear h b1 q1 s1 hs2 b2 b3 n3 q3 s3 hw3 HH
 go_wp2_with fail
 rename_i hK
 refine hK _ _ ?_
 clear hK
 cases hq : nmQ e l it with
 | bad why at1 l2 =>
  rw [hq] at hc hsg
  rw [Qa hsg] at HPO
  clear hq hsg
  go_wp2_with fail
  rw [← Qa HW3]
  refine hc.mono ?_
  clear hc
  rintro en w4 ⟨rfl, k4⟩
  have H4 := hide ((Qa K3).1.trans k4)
  clear k4
  go_wp2_with fail
  refine ⟨rfl, ?_⟩
  rw [Qa HPO]
  exact ⟨rfl, Qa H4⟩
 | ok s l2 i2 =>
  rw [hq] at hc hsg
  clear hq
  go_wp2_with fail
  rw [← Qa HW3]
  clear HW3 hxb
  refine hc.mono ?_
  clear hc
  rintro en w4 ⟨_, rfl, rfl, hR4, k4⟩
  obtain ⟨k3, n3, q3, g1, s3⟩ := Qa K3
  have hs4 := k4.size
  have n4 := k4.keep n3 (by omega)
  have q4 := k4.keep q3 (by omega)
  have hne : w.heap.size ≠ xb := by omega
  obtain ⟨c0, c1, c2, cf⟩ := cl3 n4
  obtain ⟨w5, hw5⟩ : ∃ w5, w5 = w4.setCell ⟨xb, 0, none⟩ (str s) := ⟨_, rfl⟩
  have n5 : w5.heap[xb]? = some (.cells #[str s, .slice none 0 0, .int .i64 (t.at_ : Int)] 61 (0, 0)) := by rw [hw5]; exact (Qad n4 0 _).trans rfl
  have q5 : w5.heap[w.heap.size]? = some amZ := by rw [hw5, hpS hne]; exact q4
  have k5 : Kp rb w w5 := by rw [hw5]; exact (k3.trans k4).set2 (by omega)
  have hR5 : Rd rb e w5 l2 i2 dp := by rw [hw5]; exact hR4.set2 (by omega)
  have s5 : w4.heap.size = w5.heap.size := by rw [hw5]; simp [World.setCell]
  have hen := Qmk PE Qae (Qrx (Qa HP).1) (Qa HP).2 hR5 [40] [41] (by decide) (by decide)
  have HW5 := hide hw5
  have K5 := hide (Ya k5 (Ya n5 (Ya q5 (Ya g1 (by omega : xb < w5.heap.size)))))
  clear k3 n3 q3 g1 s3 hs4 n4 q4 c1 c2 hw5 n5 q5 k5 hR5 s5 K3 hR4 k4
  cases hq : encl e [40] [41] (exD e d).1 l2 i2 with
  | bad why at1 l4 =>
   have HPO2 : Hid (PO = fun en w' => Ans rb e dp w (fun w2 v x => VAm (fun b => w.heap.size ≤ b) w2 v x) (.bad why at1 l4) en w') := by
    have := Qa HPO
    rw [Qa hsg, Rs.bind, hq] at this
    exact this
   rw [hq] at hen
   clear hq HPO hsg
   go_wp2_with fail
   rw [← Qa HW5]
   refine hen.mono ?_
   clear hen
   rintro en w7 ⟨rfl, k7⟩
   have H7 := hide ((Qa K5).1.trans k7)
   clear k7
   go_wp2_with fail
   refine ⟨rfl, ?_⟩
   rw [Qa HPO2]
   exact ⟨rfl, Qa H7⟩
  | ok ks l4 i4 =>
   have HPO2 : Hid (PO = fun en w' => Ans rb e dp w (fun w2 v x => VAm (fun b => w.heap.size ≤ b) w2 v x) (.ok ⟨s, ks, t.at_⟩ l4 i4) en w') := by
    have := Qa HPO
    rw [Qa hsg, Rs.bind, hq] at this
    exact this
   rw [hq] at hen
   clear hq HPO hsg
   go_wp2_with fail
   rw [← Qa HW5]
   clear HW5
   refine hen.mono ?_
   clear hen
   rintro en w7 ⟨_, rfl, hL, hR7, k7⟩
   obtain ⟨ka, kc, _, ev, _⟩ := id hL
   subst ev
   obtain ⟨k5, n5, q5, g1, g2⟩ := Qa K5
   have n7 := k7.keep n5 (by omega)
   have q7 := k7.keep q5 (by omega)
   obtain ⟨w8, hw8⟩ : ∃ w8, w8 = w7.setCell ⟨xb, 1, none⟩ (.slice ka ks.length kc) := ⟨_, rfl⟩
   have n8 : w8.heap[xb]? = some (.cells #[str s, .slice ka ks.length kc, .int .i64 (t.at_ : Int)] 61 (0, 0)) := by rw [hw8]; exact (Qad n7 1 _).trans rfl
   have q8 : w8.heap[w.heap.size]? = some amZ := by rw [hw8, hpS hne]; exact q7
   have k8 : Kp rb w w8 := by rw [hw8]; exact (k5.trans k7).set2 (by omega)
   have hR8 : Rd rb e w8 l4 i4 dp := by rw [hw8]; exact hR7.set2 (by omega)
   have hL8 : LsAt PE 5 (fun b => w5.heap.size ≤ b) w8 (.slice ka ks.length kc) ks := by
    refine hL.same Qae (by rw [hw8]; simp [World.setCell]) (fun b hb hl => ?_)
    have hb' : w5.heap.size ≤ b := hb
    have hn : b ≠ xb := by omega
    rw [hw8, hpS hn]
   obtain ⟨x0, x1, x2, xf⟩ := cl3 n7
   obtain ⟨z0, z1, z2, zf⟩ := cl3 n8
   obtain ⟨y0, y1, y2, yf⟩ := cl3 q8
   have HF : Hid (∀ q0 q1 q2, VAm (fun b => w.heap.size ≤ b) (((w8.setCell ⟨w.heap.size, 0, none⟩ q0).setCell ⟨w.heap.size, 1, none⟩ q1).setCell ⟨w.heap.size, 2, none⟩ q2) (.agg #[str s, .slice ka ks.length kc, .int .i64 (t.at_ : Int)]) ⟨s, ks, t.at_⟩ ∧ Rd rb e (((w8.setCell ⟨w.heap.size, 0, none⟩ q0).setCell ⟨w.heap.size, 1, none⟩ q1).setCell ⟨w.heap.size, 2, none⟩ q2) l4 i4 dp ∧ Kp rb w (((w8.setCell ⟨w.heap.size, 0, none⟩ q0).setCell ⟨w.heap.size, 1, none⟩ q1).setCell ⟨w.heap.size, 2, none⟩ q2)) := fun q0 q1 q2 => by
    have hsame : ∀ b, b ≠ w.heap.size → (((w8.setCell ⟨w.heap.size, 0, none⟩ q0).setCell ⟨w.heap.size, 1, none⟩ q1).setCell ⟨w.heap.size, 2, none⟩ q2).heap[b]? = w8.heap[b]? := fun b hb => by
     rw [hpS hb, hpS hb, hpS hb]
    exact ⟨⟨_, _, _, rfl, (hL8.same Qae (by simp [World.setCell]) (fun b hb hl => hsame b (by have hb' : w5.heap.size ≤ b := hb; omega))).mono Qae (fun b _ hb => by have hb' : w5.heap.size ≤ b := hb; omega)⟩, ((hR8.set2 (by omega)).set2 (by omega)).set2 (by omega), ((k8.set2 (by omega)).set2 (by omega)).set2 (by omega)⟩
   clear hR7 k7 k5 n5 q5 g1 g2 n7 q7 n8 q8 k8 hR8 hL8 hL x0 x2 zf hne
   subst hw8
   go_wp2_with fail
   refine bodyPost_ret (v := .agg #[str s, .slice ka ks.length kc, .int .i64 t.at_]) (by simp [results, Tryz.results124, go_sem, y0, y1, y2]) rfl ?_
   rw [Qa HPO2]
   exact ⟨_, rfl, Qa HF _ _ _⟩
end
section
open Go.RowKit Go.Maps
theorem infoF : ∃ i0 : TypeInfo, Tryz.prog.info? 138 = some i0 ∧ i0.zero = some (.agg #[.string ⟨#[]⟩, .string ⟨#[]⟩]) ∧ i0.size = 2 ∧ i0.bytes = 32 := by
 have h : (Tryz.prog.info? 138).map (fun i => (i.zero, i.size, i.bytes)) = some (some (.agg #[.string ⟨#[]⟩, .string ⟨#[]⟩]), 2, 32) := by kernel_rfl
 obtain ⟨i0, hi, hi3⟩ := Option.map_eq_some_iff.1 h
 simp only [Prod.mk.injEq] at hi3
 exact ⟨i0, hi, hi3⟩
def PartF (p : PS Fld) (rb e dp : Nat) (part : Pr Fld) : Prop := ∀ (w : World) (l : List Tok) (it : Nat), Rd rb e w l it dp → Calls Tryz.prog 117 #[.pointer (some ⟨rb, 0, none⟩)] w fun en w' => Ans rb e dp w (fun w2 v x => ∃ c0 c1, v = .agg #[c0, c1] ∧ (∀ c ∈ ([c0, c1] : List Value), c.oneCell' = true) ∧ p (fun b => w.heap.size ≤ b) w2 [c0, c1] x) (part l it) en w'

theorem Qwt (p : PS Fld) (hp : PSok p) {rb e dp : Nat} {part : Pr Fld} (hpart : PartF p rb e dp part) (hshr : Shr part) {w : World} {l : List Tok} {it : Nat} (h : Rd rb e w l it dp) (sep : Txt) (hsep : sep ≠ []) (most : Nat) :
  Calls Tryz.prog 142 #[.pointer (some ⟨rb, 0, none⟩), str sep, .int .i64 (most : Int), .func (.func 117) #[.pointer (some ⟨rb, 0, none⟩)] #[]] w fun en w' => Ans rb e dp w (fun w2 v xs => LsAt p 2 (fun b => w.heap.size ≤ b) w2 v xs) (listP e sep most part l it) en w' := by
 obtain ⟨r0, hr0⟩ : ∃ r0, r0 = listP e sep most part l it := ⟨_, rfl⟩
 have hst : LI p 2 138 rb e dp sep most part r0 w (.slice none 0 0) w [] l it (l.length + 1) := ⟨Kp.refl rb w, h, ⟨[], World.ownsRow_nil _ _ _ _, ⟨rfl, fun j x cs hx => by simp at hx⟩⟩, hr0, Nat.le_refl _, by have := h.len; simpa using this⟩
 rw [← hr0]
 obtain ⟨PO, hPO⟩ : ∃ PO : Ending → World → Prop, PO = fun en w' => Ans rb e dp w (fun w2 v xs => LsAt p 2 (fun b => w.heap.size ≤ b) w2 v xs) r0 en w' := ⟨_, rfl⟩
 rw [← hPO]
 have HPO := hide hPO
 have HST := hide hst
 have HP := hide (Ya hpart (Ya hshr hp))
 have hrb := h.lt
 clear hst hr0 hPO hpart hshr h hp
 obtain ⟨i0, hi, hz, hsz, hby⟩ := infoF
 have HIN := hide (Ya hi (Ya hz (Ya hsz hby)))
 have ht : Tryz.prog.underlying 97 = some (.slice 138) := by kernel_rfl
 have HTY := hide ht
 clear hi hz hsz hby ht
 go_enter Tryz.func142, Tryz.ntmps142
 go_wp2_with fail
 go_loopw [9] (fun sl wr => ∃ acc l' it' f sa sc, sl = .slice sa (List.length acc) sc ∧ LI p 2 138 rb e dp sep most part r0 w sl wr acc l' it' f) (fun _ wr => left rb wr)
 case atStart => exact ⟨[], l, it, _, none, 0, rfl, Qa HST⟩
 obtain ⟨acc, l', it', f, sa, sc, rfl, hL⟩ := hrel
 clear HST
 obtain ⟨f', rfl⟩ : ∃ f', f = f' + 1 := ⟨f - 1, by have := hL.fuel; omega⟩
 by_cases hm : acc.length = most
 ·
  have hr := Qbr hL.rd 3
  have hE : r0 = .bad 3 (ahd e 0 l').at_ l' := by
   rw [hL.eq]
   unfold listL
   rw [if_pos hm]; rfl
  have HE := hide (Ya hE hL.kp)
  have hm2 : ((acc.length : Int) == (most : Int)) = true := by rw [hm]; simp
  clear hL hE hm
  generalize (ahd e 0 l').at_ = at0 at hr HE
  go_wp2_with fail
  refine hr.mono ?_
  clear hr
  rintro en w3 ⟨rfl, b3⟩
  have H3 := hide ((Qa HE).2.trans (Kp.of_below b3))
  clear b3
  go_wp2_with fail
  refine ⟨rfl, ?_⟩
  rw [Qa HPO, (Qa HE).1]
  exact ⟨rfl, Qa H3⟩
 have hm2 : ((acc.length : Int) == (most : Int)) = false := by simp; omega
 obtain ⟨hpart, hshr, hp⟩ := Qa HP
 have hc := hpart wr l' it' hL.rd
 have hE : r0 = (part l' it').bind fun x l i => if sgn e l = sep then listL e sep most part f' (acc ++ [x]) (l.drop 1) i else .ok (acc ++ [x]) l i := by
  rw [hL.eq]
  conv => lhs; unfold listL
  rw [if_neg hm]
 cases hq : part l' it' with
 | bad why at0 l2 =>
  rw [hq] at hc hE
  have HE := hide (Ya hE hL.kp)
  clear hL hE hm hpart hshr hp hq
  go_wp2_with fail
  refine hc.mono ?_
  clear hc
  rintro en w3 ⟨rfl, k3⟩
  have H3 := hide ((Qa HE).2.trans k3)
  clear k3
  go_wp2_with fail
  refine ⟨rfl, ?_⟩
  rw [Qa HPO, (Qa HE).1]
  exact ⟨rfl, Qa H3⟩
 | ok x l2 i2 =>
  have hle := hshr _ _ _ _ _ hq
  rw [hq] at hc hE
  have HE := hide (Ya hL hE)
  clear hL hE hm hpart hshr hp hq
  go_wp2_with fail
  refine hc.mono ?_
  clear hc
  rintro en w2 ⟨_, rfl, ⟨c0, c1, rfl, h1, hx⟩, hR2, k2⟩
  obtain ⟨hL, hE⟩ := Qa HE
  obtain ⟨hi, hz, hsz, hby⟩ := Qa HIN
  obtain ⟨r, w8, hrun, kp8, rd8, ⟨ra, rc, er⟩, hown8⟩ := hL.more (Qa HP).2.2 (Qa HTY) hi hz hsz hby rfl (by decide) (by decide) (cs := [c0, c1]) rfl h1 hx hR2 k2 hrb
  subst er
  have HRUN := hide hrun
  have hsk := Qcb rd8 sep hsep
  have hfu := hL.fuel
  have hfw := hL.few
  have hlf := Qbz hL.rd
  have H8 := hide (Ya kp8 (Ya hown8 hE))
  clear hL hE hi hz hsz hby h1 hx hR2 k2 hrun kp8 rd8 hown8 HE
  go_wp2_with (at_builtin; refine Qbs _ rfl _ _ 97 rfl _ _ rfl rfl _ _ (Qa HRUN) ?_; clear HRUN)
  refine hsk.mono ?_
  clear hsk
  rintro en w9 ⟨rfl, hR9, k9⟩
  obtain ⟨kp8, ⟨css, ho8, ha8⟩, hE⟩ := Qa H8
  have own9 : w9.ownsRow w.heap.size 138 2 (.slice ra (acc.length + 1) rc) (acc ++ [x]).length css.flatten := by
   refine ⟨ho8.1, ?_⟩
   rcases ho8.2 with q | ⟨g, cap, cur, e1, e2, e3, e4⟩
   · exact .inl q
   · exact .inr ⟨g, cap, cur, e1, e2, k9.keep e3 (by omega), e4⟩
  have all9 := ha8.same (Qa HP).2.2 k9.size (fun b hs hb => k9.block b hb (by omega))
  have kp9 := kp8.trans k9
  clear kp8 ho8 ha8 k9 H8
  by_cases hS : sgn e l2 = sep
  ·
   rw [if_pos hS] at hR9
   have hS2 : decide (sgn e l2 = sep) = true := decide_eq_true hS
   obtain ⟨t2, l3, e2, hq2⟩ := Qci hS hsep
   clear hq2
   subst e2
   have hN : LI p 2 138 rb e dp sep most part r0 w (.slice ra (acc.length + 1) rc) w9 (acc ++ [x]) l3 i2 f' := ⟨kp9, hR9, ⟨css, own9, all9⟩, by rw [hE]; show (if sgn e (t2 :: l3) = sep then _ else _) = _; rw [if_pos hS]; rfl, by simp at hle; omega, by simp at hle ⊢; omega⟩
   have hl9 := Qbz hR9
   have HN := hide hN
   rw [hS2]
   have HL9 := hide (Ya hl9 (Ya hlf hle))
   clear hN hR9 own9 all9 kp9 hE hS hS2 hl9 hlf hle
   go_wp2_with fail
   go_roundw
   case rel => exact ⟨_, _, _, _, ra, rc, by simp, Qa HN⟩
   obtain ⟨q1, q2, q3⟩ := Qa HL9
   rw [q1, q2]
   simp at q3 ⊢
   omega
  rw [if_neg hS] at hR9
  have hS2 : decide (sgn e l2 = sep) = false := decide_eq_false hS
  have hF : r0 = .ok (acc ++ [x]) l2 i2 := by rw [hE]; show (if sgn e l2 = sep then _ else _) = _; rw [if_neg hS]
  have HF : Hid (r0 = .ok (acc ++ [x]) l2 i2 ∧ LsAt p 2 (fun b => w.heap.size ≤ b) w9 (.slice ra (acc.length + 1) rc) (acc ++ [x]) ∧ Rd rb e w9 l2 i2 dp ∧ Kp rb w w9) := ⟨hF, LsAt.of own9 (all9.mono (Qa HP).2.2 (fun b _ hs => hs.1)), hR9, kp9⟩
  rw [hS2]
  clear hF hR9 own9 all9 kp9 hE hS hS2 hlf hle
  go_wp2_with fail
  rw [Qa HPO, (Qa HF).1]
  exact ⟨_, rfl, (Qa HF).2⟩
end
section
open Go.RowKit Go.Maps
theorem Qml (p : PS Fld) (hp : PSok p) {rb e dp : Nat} {part : Pr Fld} (hpart : PartF p rb e dp part) (hshr : Shr part) {w : World} {l : List Tok} {it : Nat} (h : Rd rb e w l it dp) (op cl : Txt) (hop : op ≠ []) (hcl : cl ≠ []) :
  Calls Tryz.prog 116 #[.pointer (some ⟨rb, 0, none⟩), str op, str cl, .func (.func 117) #[.pointer (some ⟨rb, 0, none⟩)] #[]] w fun en w' => Ans rb e dp w (fun w2 v xs => LsAt p 2 (fun b => w.heap.size ≤ b) w2 v xs) (encl e op cl part l it) en w' := by
 have hw := Qch h op hop
 obtain ⟨PO, hPO⟩ : ∃ PO : Ending → World → Prop, PO = fun en w' => Ans rb e dp w (fun w2 v xs => LsAt p 2 (fun b => w.heap.size ≤ b) w2 v xs) (encl e op cl part l it) en w' := ⟨_, rfl⟩
 rw [← hPO]
 have hrb := h.lt
 have HP := hide (Ya hpart (Ya hshr hp))
 clear h hpart hshr hp
 unfold encl at hPO
 cases hq : want e op l it with
 | bad why at0 l2 =>
  rw [hq] at hw hPO
  have HPO := hide hPO
  clear hPO hq
  go_enter Tryz.func116, Tryz.ntmps116
  go_wp2_with fail
  refine hw.mono ?_
  clear hw
  rintro en w2 ⟨rfl, k2⟩
  have H2 := hide k2
  clear k2
  go_wp2_with fail
  refine ⟨rfl, ?_⟩
  rw [Qa HPO]
  exact ⟨rfl, Qa H2⟩
 | ok u l2 i2 =>
  rw [hq] at hw hPO
  have HPO := hide hPO
  clear hPO hq
  go_enter Tryz.func116, Tryz.ntmps116
  go_wp2_with fail
  refine hw.mono ?_
  clear hw
  rintro en w2 ⟨_, rfl, rfl, hR2, k2⟩
  have hsk := Qcb hR2 cl hcl
  have K2 := hide k2
  clear hR2 k2
  by_cases hS : sgn e l2 = cl
  ·
   rw [if_pos hS, decide_eq_true hS] at hsk
   have HP2 : Hid (PO = fun en w' => Ans rb e dp w (fun w2 v xs => LsAt p 2 (fun b => w.heap.size ≤ b) w2 v xs) (.ok [] (l2.drop 1) i2) en w') := by
    have := Qa HPO
    simp only [Rs.bind] at this
    rw [if_pos hS] at this
    exact this
   clear hS HPO
   go_wp2_with fail
   refine hsk.mono ?_
   clear hsk
   rintro en w3 ⟨rfl, hR3, k3⟩
   have H3 := hide (Ya hR3 ((Qa K2).trans k3))
   clear hR3 k3
   go_wp2_with fail
   rw [Qa HP2]
   exact ⟨_, rfl, LsAt.nil _ _, Qa H3⟩
  rw [if_neg hS, decide_eq_false hS] at hsk
  have HP2 : Hid (PO = fun en w' => Ans rb e dp w (fun w2 v xs => LsAt p 2 (fun b => w.heap.size ≤ b) w2 v xs) ((listP e [44] 8 part l2 i2).bind fun xs l i => (want e cl l i).map fun _ => xs) en w') := by
   have := Qa HPO
   simp only [Rs.bind] at this
   rw [if_neg hS] at this
   exact this
  clear hS HPO
  go_wp2_with fail
  refine hsk.mono ?_
  clear hsk
  rintro en w3 ⟨rfl, hR3, k3⟩
  have hls := Qwt p (Qa HP).2.2 (Qa HP).1 (Qa HP).2.1 hR3 [44] (by simp) 8
  have K3 := hide ((Qa K2).trans k3)
  clear hR3 k3
  cases hq : listP e [44] 8 part l2 i2 with
  | bad why at0 l4 =>
   rw [hq] at hls
   have HP3 : Hid (PO = fun en w' => en = .panicked [{ v := stopV why at0, recovered := false }] ∧ Kp rb w w') := by
    have := Qa HP2
    rw [hq] at this
    exact this
   clear hq HP2
   go_wp2_with fail
   refine hls.mono ?_
   clear hls
   rintro en w4 ⟨rfl, k4⟩
   have H4 := hide ((Qa K3).trans k4)
   clear k4
   go_wp2_with fail
   refine ⟨rfl, ?_⟩
   rw [Qa HP3]
   exact ⟨rfl, Qa H4⟩
  | ok xs l4 i4 =>
   rw [hq] at hls
   have HP3 : Hid (PO = fun en w' => Ans rb e dp w (fun w2 v xs => LsAt p 2 (fun b => w.heap.size ≤ b) w2 v xs) ((want e cl l4 i4).map fun _ => xs) en w') := by
    have := Qa HP2
    rw [hq] at this
    exact this
   clear hq HP2
   go_wp2_with fail
   refine hls.mono ?_
   clear hls
   rintro en w4 ⟨lv, rfl, hLs, hR4, k4⟩
   obtain ⟨la, lc, lcss, elv, _⟩ := id hLs
   subst elv
   have hwt := Qch hR4 cl hcl
   have K4 := hide (Ya ((Qa K3).trans k4) (Ya (Qa K3).size hLs))
   clear hR4 k4 hLs
   cases hq2 : want e cl l4 i4 with
   | bad why at0 l5 =>
    rw [hq2] at hwt
    have HP4 : Hid (PO = fun en w' => en = .panicked [{ v := stopV why at0, recovered := false }] ∧ Kp rb w w') := by
     have := Qa HP3
     rw [hq2] at this
     exact this
    clear hq2 HP3
    go_wp2_with fail
    refine hwt.mono ?_
    clear hwt
    rintro en w5 ⟨rfl, k5⟩
    have H5 := hide ((Qa K4).1.trans k5)
    clear k5
    go_wp2_with fail
    refine ⟨rfl, ?_⟩
    rw [Qa HP4]
    exact ⟨rfl, Qa H5⟩
   | ok u5 l5 i5 =>
    rw [hq2] at hwt
    have HP4 : Hid (PO = fun en w' => ∃ v, en = .returned v ∧ LsAt p 2 (fun b => w.heap.size ≤ b) w' v xs ∧ Rd rb e w' l5 i5 dp ∧ Kp rb w w') := by
     have := Qa HP3
     rw [hq2] at this
     exact this
    clear hq2 HP3
    go_wp2_with fail
    refine hwt.mono ?_
    clear hwt
    rintro en w5 ⟨_, rfl, rfl, hR5, k5⟩
    have hL5 := ((Qa K4).2.2.mono (Qa HP).2.2 (S' := fun b => w.heap.size ≤ b) (fun b _ hs => Nat.le_trans (Qa K4).2.1 hs)).same (Qa HP).2.2 k5.size (fun b hs hb => k5.block b hb (by omega))
    have H5 := hide (Ya hL5 (Ya hR5 ((Qa K4).1.trans k5)))
    clear hL5 hR5 k5
    go_wp2_with fail
    rw [Qa HP4]
    exact ⟨_, rfl, Qa H5⟩
end
section
open Go.RowKit Go.Maps
theorem infoC : ∃ i0 : TypeInfo, Tryz.prog.info? 119 = some i0 ∧ i0.zero = some (.agg #[.string ⟨#[]⟩, .slice none 0 0]) ∧ i0.size = 2 ∧ i0.bytes = 40 := by
 have h : (Tryz.prog.info? 119).map (fun i => (i.zero, i.size, i.bytes)) = some (some (.agg #[.string ⟨#[]⟩, .slice none 0 0]), 2, 40) := by kernel_rfl
 obtain ⟨i0, hi, hi3⟩ := Option.map_eq_some_iff.1 h
 simp only [Prod.mk.injEq] at hi3
 exact ⟨i0, hi, hi3⟩
def PartC (p : PS Ctr) (rb e dp : Nat) (part : Pr Ctr) : Prop := ∀ (w : World) (l : List Tok) (it : Nat), Rd rb e w l it dp → Calls Tryz.prog 115 #[.pointer (some ⟨rb, 0, none⟩)] w fun en w' => Ans rb e dp w (fun w2 v x => ∃ c0 c1, v = .agg #[c0, c1] ∧ (∀ c ∈ ([c0, c1] : List Value), c.oneCell' = true) ∧ p (fun b => w.heap.size ≤ b) w2 [c0, c1] x) (part l it) en w'

theorem Qwr (p : PS Ctr) (hp : PSok p) {rb e dp : Nat} {part : Pr Ctr} (hpart : PartC p rb e dp part) (hshr : Shr part) {w : World} {l : List Tok} {it : Nat} (h : Rd rb e w l it dp) (sep : Txt) (hsep : sep ≠ []) (most : Nat) :
  Calls Tryz.prog 114 #[.pointer (some ⟨rb, 0, none⟩), str sep, .int .i64 (most : Int), .func (.func 115) #[.pointer (some ⟨rb, 0, none⟩)] #[]] w fun en w' => Ans rb e dp w (fun w2 v xs => LsAt p 2 (fun b => w.heap.size ≤ b) w2 v xs) (listP e sep most part l it) en w' := by
 obtain ⟨r0, hr0⟩ : ∃ r0, r0 = listP e sep most part l it := ⟨_, rfl⟩
 have hst : LI p 2 119 rb e dp sep most part r0 w (.slice none 0 0) w [] l it (l.length + 1) := ⟨Kp.refl rb w, h, ⟨[], World.ownsRow_nil _ _ _ _, ⟨rfl, fun j x cs hx => by simp at hx⟩⟩, hr0, Nat.le_refl _, by have := h.len; simpa using this⟩
 rw [← hr0]
 obtain ⟨PO, hPO⟩ : ∃ PO : Ending → World → Prop, PO = fun en w' => Ans rb e dp w (fun w2 v xs => LsAt p 2 (fun b => w.heap.size ≤ b) w2 v xs) r0 en w' := ⟨_, rfl⟩
 rw [← hPO]
 have HPO := hide hPO
 have HST := hide hst
 have HP := hide (Ya hpart (Ya hshr hp))
 have hrb := h.lt
 clear hst hr0 hPO hpart hshr h hp
 obtain ⟨i0, hi, hz, hsz, hby⟩ := infoC
 have HIN := hide (Ya hi (Ya hz (Ya hsz hby)))
 have ht : Tryz.prog.underlying 92 = some (.slice 119) := by kernel_rfl
 have HTY := hide ht
 clear hi hz hsz hby ht
 go_enter Tryz.func114, Tryz.ntmps114
 go_wp2_with fail
 go_loopw [9] (fun sl wr => ∃ acc l' it' f sa sc, sl = .slice sa (List.length acc) sc ∧ LI p 2 119 rb e dp sep most part r0 w sl wr acc l' it' f) (fun _ wr => left rb wr)
 case atStart => exact ⟨[], l, it, _, none, 0, rfl, Qa HST⟩
 obtain ⟨acc, l', it', f, sa, sc, rfl, hL⟩ := hrel
 clear HST
 obtain ⟨f', rfl⟩ : ∃ f', f = f' + 1 := ⟨f - 1, by have := hL.fuel; omega⟩
 by_cases hm : acc.length = most
 ·
  have hr := Qbr hL.rd 3
  have hE : r0 = .bad 3 (ahd e 0 l').at_ l' := by
   rw [hL.eq]
   unfold listL
   rw [if_pos hm]; rfl
  have HE := hide (Ya hE hL.kp)
  have hm2 : ((acc.length : Int) == (most : Int)) = true := by rw [hm]; simp
  clear hL hE hm
  generalize (ahd e 0 l').at_ = at0 at hr HE
  go_wp2_with fail
  refine hr.mono ?_
  clear hr
  rintro en w3 ⟨rfl, b3⟩
  have H3 := hide ((Qa HE).2.trans (Kp.of_below b3))
  clear b3
  go_wp2_with fail
  refine ⟨rfl, ?_⟩
  rw [Qa HPO, (Qa HE).1]
  exact ⟨rfl, Qa H3⟩
 have hm2 : ((acc.length : Int) == (most : Int)) = false := by simp; omega
 obtain ⟨hpart, hshr, hp⟩ := Qa HP
 have hc := hpart wr l' it' hL.rd
 have hE : r0 = (part l' it').bind fun x l i => if sgn e l = sep then listL e sep most part f' (acc ++ [x]) (l.drop 1) i else .ok (acc ++ [x]) l i := by
  rw [hL.eq]
  conv => lhs; unfold listL
  rw [if_neg hm]
 cases hq : part l' it' with
 | bad why at0 l2 =>
  rw [hq] at hc hE
  have HE := hide (Ya hE hL.kp)
  clear hL hE hm hpart hshr hp hq
  go_wp2_with fail
  refine hc.mono ?_
  clear hc
  rintro en w3 ⟨rfl, k3⟩
  have H3 := hide ((Qa HE).2.trans k3)
  clear k3
  go_wp2_with fail
  refine ⟨rfl, ?_⟩
  rw [Qa HPO, (Qa HE).1]
  exact ⟨rfl, Qa H3⟩
 | ok x l2 i2 =>
  have hle := hshr _ _ _ _ _ hq
  rw [hq] at hc hE
  have HE := hide (Ya hL hE)
  clear hL hE hm hpart hshr hp hq
  go_wp2_with fail
  refine hc.mono ?_
  clear hc
  rintro en w2 ⟨_, rfl, ⟨c0, c1, rfl, h1, hx⟩, hR2, k2⟩
  obtain ⟨hL, hE⟩ := Qa HE
  obtain ⟨hi, hz, hsz, hby⟩ := Qa HIN
  obtain ⟨r, w8, hrun, kp8, rd8, ⟨ra, rc, er⟩, hown8⟩ := hL.more (Qa HP).2.2 (Qa HTY) hi hz hsz hby rfl (by decide) (by decide) (cs := [c0, c1]) rfl h1 hx hR2 k2 hrb
  subst er
  have HRUN := hide hrun
  have hsk := Qcb rd8 sep hsep
  have hfu := hL.fuel
  have hfw := hL.few
  have hlf := Qbz hL.rd
  have H8 := hide (Ya kp8 (Ya hown8 hE))
  clear hL hE hi hz hsz hby h1 hx hR2 k2 hrun kp8 rd8 hown8 HE
  go_wp2_with (at_builtin; refine Qbs _ rfl _ _ 92 rfl _ _ rfl rfl _ _ (Qa HRUN) ?_; clear HRUN)
  refine hsk.mono ?_
  clear hsk
  rintro en w9 ⟨rfl, hR9, k9⟩
  obtain ⟨kp8, ⟨css, ho8, ha8⟩, hE⟩ := Qa H8
  have own9 : w9.ownsRow w.heap.size 119 2 (.slice ra (acc.length + 1) rc) (acc ++ [x]).length css.flatten := by
   refine ⟨ho8.1, ?_⟩
   rcases ho8.2 with q | ⟨g, cap, cur, e1, e2, e3, e4⟩
   · exact .inl q
   · exact .inr ⟨g, cap, cur, e1, e2, k9.keep e3 (by omega), e4⟩
  have all9 := ha8.same (Qa HP).2.2 k9.size (fun b hs hb => k9.block b hb (by omega))
  have kp9 := kp8.trans k9
  clear kp8 ho8 ha8 k9 H8
  by_cases hS : sgn e l2 = sep
  ·
   rw [if_pos hS] at hR9
   have hS2 : decide (sgn e l2 = sep) = true := decide_eq_true hS
   obtain ⟨t2, l3, e2, hq2⟩ := Qci hS hsep
   clear hq2
   subst e2
   have hN : LI p 2 119 rb e dp sep most part r0 w (.slice ra (acc.length + 1) rc) w9 (acc ++ [x]) l3 i2 f' := ⟨kp9, hR9, ⟨css, own9, all9⟩, by rw [hE]; show (if sgn e (t2 :: l3) = sep then _ else _) = _; rw [if_pos hS]; rfl, by simp at hle; omega, by simp at hle ⊢; omega⟩
   have hl9 := Qbz hR9
   have HN := hide hN
   rw [hS2]
   have HL9 := hide (Ya hl9 (Ya hlf hle))
   clear hN hR9 own9 all9 kp9 hE hS hS2 hl9 hlf hle
   go_wp2_with fail
   go_roundw
   case rel => exact ⟨_, _, _, _, ra, rc, by simp, Qa HN⟩
   obtain ⟨q1, q2, q3⟩ := Qa HL9
   rw [q1, q2]
   simp at q3 ⊢
   omega
  rw [if_neg hS] at hR9
  have hS2 : decide (sgn e l2 = sep) = false := decide_eq_false hS
  have hF : r0 = .ok (acc ++ [x]) l2 i2 := by rw [hE]; show (if sgn e l2 = sep then _ else _) = _; rw [if_neg hS]
  have HF : Hid (r0 = .ok (acc ++ [x]) l2 i2 ∧ LsAt p 2 (fun b => w.heap.size ≤ b) w9 (.slice ra (acc.length + 1) rc) (acc ++ [x]) ∧ Rd rb e w9 l2 i2 dp ∧ Kp rb w w9) := ⟨hF, LsAt.of own9 (all9.mono (Qa HP).2.2 (fun b _ hs => hs.1)), hR9, kp9⟩
  rw [hS2]
  clear hF hR9 own9 all9 kp9 hE hS hS2 hlf hle
  go_wp2_with fail
  rw [Qa HPO, (Qa HF).1]
  exact ⟨_, rfl, (Qa HF).2⟩
end
section
open Go.RowKit Go.Maps
def PF : PS Fld := fun _ _ cs f => cs = [str f.name, str f.type]
theorem Qbv : PSok PF where
 mono := fun _ _ _ _ _ h _ => h
 same := fun _ _ _ _ _ h _ _ => h
theorem Qry {rb e dp : Nat} : PartF PF rb e dp (fieldP e) := fun w l it hR => by
 refine (Qwc hR).mono ?_
 intro en w' ha
 cases hq : fieldP e l it with
 | bad why at0 l2 => rw [hq] at ha; exact ha
 | ok x l2 i2 =>
  rw [hq] at ha
  obtain ⟨v, e1, e2, h3, h4⟩ := ha
  exact ⟨v, e1, ⟨_, _, e2, fun c hc => by
   simp only [List.mem_cons, List.not_mem_nil, or_false] at hc
   rcases hc with rfl | rfl <;> rfl, rfl⟩, h3, h4⟩
theorem cl2 {w : World} {b : Nat} {T : TypeId} {v0 v1 : Value} (h : w.heap[b]? = some (.cells #[v0, v1] T (0, 0))) :
  w.cell? ⟨b, 0, none⟩ = some v0 ∧ w.cell? ⟨b, 1, none⟩ = some v1 ∧ ∀ o, w.frozen? ⟨b, o, none⟩ = false :=
 ⟨(Qab h 0).trans rfl, (Qab h 1).trans rfl, fun o => by simp [World.frozen?, h]⟩
abbrev ctZ : Obj := .cells #[.string ⟨#[]⟩, .slice none 0 0] 119
def PC : PS Ctr := fun S w cs c => ∃ xa xn xc, cs = [str c.name, .slice xa xn xc] ∧ LsAt PF 2 S w (.slice xa xn xc) c.fields
theorem Qex : PSok PC where
 mono := fun _ _ _ _ _ ⟨xa, xn, xc, h1, h2⟩ hS => ⟨xa, xn, xc, h1, h2.mono Qbv hS⟩
 same := fun _ _ _ _ _ ⟨xa, xn, xc, h1, h2⟩ hs hb => ⟨xa, xn, xc, h1, h2.same Qbv hs hb⟩

theorem Qzz {rb e dp : Nat} {w : World} {l : List Tok} {it : Nat} (h : Rd rb e w l it dp) :
  Calls Tryz.prog 115 #[.pointer (some ⟨rb, 0, none⟩)] w fun en w' => Ans rb e dp w (fun w2 v x => ∃ xa xn xc, v = .agg #[str x.name, .slice xa xn xc] ∧ LsAt PF 2 (fun b => w.heap.size ≤ b) w2 (.slice xa xn xc) x.fields) (ctorP e l it) en w' := by
 obtain ⟨w1, hw1⟩ : ∃ w1, w1 = w.alloc ctZ := ⟨_, rfl⟩
 have b1 : Below w.heap.size w w1 := bnw hw1
 have q1 : w1.heap[w.heap.size]? = some ctZ := nnw hw1
 have s1 : w1.heap.size = w.heap.size + 1 := by rw [hw1]; simp
 have hc := Qcp (h.later b1)
 have hrb := h.lt
 obtain ⟨PO, hPO⟩ : ∃ PO : Ending → World → Prop, PO = fun en w' => Ans rb e dp w (fun w2 v x => ∃ xa xn xc, v = .agg #[str x.name, .slice xa xn xc] ∧ LsAt PF 2 (fun b => w.heap.size ≤ b) w2 (.slice xa xn xc) x.fields) (ctorP e l it) en w' := ⟨_, rfl⟩
 rw [← hPO]
 have HW1 : Hid (w1 = w.alloc (.cells #[.string ⟨#[]⟩, .slice none 0 0] 119)) := hw1
 have HPO := hide hPO
 have hsg : Hid (ctorP e l it = (wordQ e l it).bind fun n l i => (encl e [123] [125] (fieldP e) l i).map fun fs => ⟨n, fs⟩) := rfl
 generalize ctorP e l it = sr at HPO hsg
 have K1 := hide (Ya (Kp.of_below (rb := rb) b1) (Ya q1 s1))
 clear h b1 q1 s1 hw1 hPO
 cases hq : wordQ e l it with
 | bad why at1 l2 =>
  rw [hq] at hc hsg
  rw [Qa hsg] at HPO
  clear hq hsg
  go_enter Tryz.func115, Tryz.ntmps115
  go_wp2_with fail
  rw [← Qa HW1]
  refine hc.mono ?_
  clear hc
  rintro en w4 ⟨rfl, k4⟩
  have H4 := hide ((Qa K1).1.trans k4)
  clear k4
  go_wp2_with fail
  refine ⟨rfl, ?_⟩
  rw [Qa HPO]
  exact ⟨rfl, Qa H4⟩
 | ok s l2 i2 =>
  rw [hq] at hc hsg
  clear hq
  go_enter Tryz.func115, Tryz.ntmps115
  go_wp2_with fail
  rw [← Qa HW1]
  clear HW1
  refine hc.mono ?_
  clear hc
  rintro en w4 ⟨_, rfl, rfl, hR4, k4⟩
  obtain ⟨k1, q1, s1⟩ := Qa K1
  have hs4 := k4.size
  obtain ⟨w5, hw5⟩ : ∃ w5, w5 = w4.alloc (.cells #[str s, .slice none 0 0] 119) := ⟨_, rfl⟩
  have b5 : Below w4.heap.size w4 w5 := bnw hw5
  have n5 : w5.heap[w4.heap.size]? = some (.cells #[str s, .slice none 0 0] 119 (0, 0)) := nnw hw5
  have q5 : w5.heap[w.heap.size]? = some ctZ := (b5.block _ (by omega)).trans (k4.keep q1 (by omega))
  have k5 : Kp rb w w5 := (k1.trans k4).trans (Kp.of_below b5)
  have s5 : w5.heap.size = w4.heap.size + 1 := by rw [hw5]; simp
  have hen := Qml PF Qbv Qry Qgm (hR4.later b5) [123] [125] (by decide) (by decide)
  have HW5 := hide hw5
  have K5 := hide (Ya k5 (Ya n5 (Ya q5 (Ya (by omega : w.heap.size + 1 ≤ w4.heap.size) (by omega : w4.heap.size < w5.heap.size)))))
  generalize hxb : w4.heap.size = xb at K5
  clear k1 q1 s1 hs4 hw5 b5 n5 q5 k5 s5 K1 hR4 k4
  cases hq : encl e [123] [125] (fieldP e) l2 i2 with
  | bad why at1 l4 =>
   rw [hq] at hen
   rw [Qa hsg, Rs.bind, hq] at HPO
   clear hq hsg
   go_wp2_with fail
   rw [← Qa HW5]
   refine hen.mono ?_
   clear hen
   rintro en w7 ⟨rfl, k7⟩
   have H7 := hide ((Qa K5).1.trans k7)
   clear k7
   go_wp2_with fail
   refine ⟨rfl, ?_⟩
   rw [Qa HPO]
   exact ⟨rfl, Qa H7⟩
  | ok ks l4 i4 =>
   rw [hq] at hen
   rw [Qa hsg, Rs.bind, hq] at HPO
   clear hq hsg
   go_wp2_with fail
   rw [← Qa HW5]
   clear HW5 hxb
   refine hen.mono ?_
   clear hen
   rintro en w7 ⟨_, rfl, hL, hR7, k7⟩
   obtain ⟨ka, kc, _, ev, _⟩ := id hL
   subst ev
   obtain ⟨k5, n5, q5, g1, g2⟩ := Qa K5
   have n7 := k7.keep n5 (by omega)
   have q7 := k7.keep q5 (by omega)
   have hne : w.heap.size ≠ xb := by omega
   obtain ⟨w8, hw8⟩ : ∃ w8, w8 = w7.setCell ⟨xb, 1, none⟩ (.slice ka ks.length kc) := ⟨_, rfl⟩
   have n8 : w8.heap[xb]? = some (.cells #[str s, .slice ka ks.length kc] 119 (0, 0)) := by rw [hw8]; exact (Qad n7 1 _).trans rfl
   have q8 : w8.heap[w.heap.size]? = some ctZ := by rw [hw8, hpS hne]; exact q7
   have k8 : Kp rb w w8 := by rw [hw8]; exact (k5.trans k7).set2 (by omega)
   have hR8 : Rd rb e w8 l4 i4 dp := by rw [hw8]; exact hR7.set2 (by omega)
   have hL8 : LsAt PF 2 (fun b => w5.heap.size ≤ b) w8 (.slice ka ks.length kc) ks := by
    refine hL.same Qbv (by rw [hw8]; simp [World.setCell]) (fun b hb hl => ?_)
    have hb' : w5.heap.size ≤ b := hb
    have hn : b ≠ xb := by omega
    rw [hw8, hpS hn]
   obtain ⟨x0, x1, xf⟩ := cl2 n7
   obtain ⟨z0, z1, zf⟩ := cl2 n8
   obtain ⟨y0, y1, yf⟩ := cl2 q8
   have HF : Hid (∀ q0 q1, (∃ xa xn xc, (.agg #[str s, .slice ka ks.length kc] : Value) = .agg #[str s, .slice xa xn xc] ∧ LsAt PF 2 (fun b => w.heap.size ≤ b) ((w8.setCell ⟨w.heap.size, 0, none⟩ q0).setCell ⟨w.heap.size, 1, none⟩ q1) (.slice xa xn xc) ks) ∧ Rd rb e ((w8.setCell ⟨w.heap.size, 0, none⟩ q0).setCell ⟨w.heap.size, 1, none⟩ q1) l4 i4 dp ∧ Kp rb w ((w8.setCell ⟨w.heap.size, 0, none⟩ q0).setCell ⟨w.heap.size, 1, none⟩ q1)) := fun q0 q1 => by
    have hsame : ∀ b, b ≠ w.heap.size → ((w8.setCell ⟨w.heap.size, 0, none⟩ q0).setCell ⟨w.heap.size, 1, none⟩ q1).heap[b]? = w8.heap[b]? := fun b hb => by
     rw [hpS hb, hpS hb]
    exact ⟨⟨_, _, _, rfl, (hL8.same Qbv (by simp [World.setCell]) (fun b hb hl => hsame b (by have hb' : w5.heap.size ≤ b := hb; omega))).mono Qbv (fun b _ hb => by have hb' : w5.heap.size ≤ b := hb; omega)⟩, (hR8.set2 (by omega)).set2 (by omega), (k8.set2 (by omega)).set2 (by omega)⟩
   clear hR7 k7 k5 n5 q5 g1 g2 n7 q7 n8 q8 k8 hR8 hL8 hL x0 zf hne
   subst hw8
   go_wp2_with fail
   refine bodyPost_ret (v := .agg #[str s, .slice ka ks.length kc]) (by simp [results, Tryz.results115, go_sem, y0, y1]) rfl ?_
   rw [Qa HPO]
   exact ⟨_, rfl, Qa HF _ _⟩
theorem Jay {rb e dp : Nat} : PartC PC rb e dp (ctorP e) := fun w l it hR => by
 refine (Qzz hR).mono ?_
 intro en w' ha
 cases hq : ctorP e l it with
 | bad why at0 l2 => rw [hq] at ha; exact ha
 | ok x l2 i2 =>
  rw [hq] at ha
  obtain ⟨v, e1, ⟨xa, xn, xc, e2, hL⟩, h3, h4⟩ := ha
  exact ⟨v, e1, ⟨_, _, e2, fun c hc => by
   simp only [List.mem_cons, List.not_mem_nil, or_false] at hc
   rcases hc with rfl | rfl <;> rfl, ⟨xa, xn, xc, rfl, hL⟩⟩, h3, h4⟩
end
section
open Go.RowKit Go.Maps
abbrev inZ : Obj := .cells #[.string ⟨#[]⟩, .string ⟨#[]⟩, .int .i64 0] 77

theorem Qmv {rb e dp : Nat} {w : World} {t : Tok} {l : List Tok} {it : Nat} (h : Rd rb e w (t :: l) it dp) :
  Calls Tryz.prog 96 #[.pointer (some ⟨rb, 0, none⟩)] w fun en w' => Ans rb e dp w (fun _ v x => v = .agg #[str x.name, str x.comp, .int .i64 x.at_]) (initP e (t :: l) it) en w' := by
 obtain ⟨w1, hw1⟩ : ∃ w1, w1 = w.alloc inZ := ⟨_, rfl⟩
 have b1 : Below w.heap.size w w1 := bnw hw1
 have q1 : w1.heap[w.heap.size]? = some inZ := nnw hw1
 have s1 : w1.heap.size = w.heap.size + 1 := by rw [hw1]; simp
 have ha : Calls Tryz.prog 110 #[.pointer (some ⟨rb, 0, none⟩)] w1 fun en w' => en = .returned (.agg #[.int .i64 t.kind, str t.text, .int .i64 t.num, .int .i64 (t.at_ : Int)]) ∧ Rd rb e w' l it dp ∧ Kp rb w1 w' := Qbu (h.later b1)
 have hrb := h.lt
 obtain ⟨PO, hPO⟩ : ∃ PO : Ending → World → Prop, PO = fun en w' => Ans rb e dp w (fun _ v x => v = .agg #[str x.name, str x.comp, .int .i64 x.at_]) (initP e (t :: l) it) en w' := ⟨_, rfl⟩
 rw [← hPO]
 have HW1 : Hid (w1 = w.alloc (.cells #[.string ⟨#[]⟩, .string ⟨#[]⟩, .int .i64 0] 77)) := hw1
 have HPO := hide hPO
 have hsg : Hid (initP e (t :: l) it = (wordQ e l it).bind fun n l2 i => (want e [61] l2 i).bind fun _ l3 i => (nmQ e l3 i).map fun c => ⟨n, c, t.at_⟩) := rfl
 generalize initP e (t :: l) it = sr at HPO hsg
 have K1 := hide (Ya (Kp.of_below (rb := rb) b1) (Ya q1 s1))
 clear h b1 q1 s1 hw1 hPO
 go_enter Tryz.func96, Tryz.ntmps96
 go_wp2_with fail
 rw [← Qa HW1]
 refine ha.mono ?_
 clear ha
 rintro en w2 ⟨rfl, hR2, k2⟩
 obtain ⟨k1, q1, s1⟩ := Qa K1
 have hs2 := k2.size
 obtain ⟨w3, hw3⟩ : ∃ w3, w3 = w2.alloc (.cells #[.string ⟨#[]⟩, .string ⟨#[]⟩, .int .i64 (t.at_ : Int)] 77) := ⟨_, rfl⟩
 have b3 : Below w2.heap.size w2 w3 := bnw hw3
 have n3 : w3.heap[w2.heap.size]? = some (.cells #[.string ⟨#[]⟩, .string ⟨#[]⟩, .int .i64 (t.at_ : Int)] 77 (0, 0)) := nnw hw3
 have q3 : w3.heap[w.heap.size]? = some inZ := (b3.block _ (by omega)).trans (k2.keep q1 (by omega))
 have s3 : w3.heap.size = w2.heap.size + 1 := by rw [hw3]; simp
 have hc := Qcp (hR2.later b3)
 have HW3 := hide hw3
 have K3 := hide (Ya ((k1.trans k2).trans (Kp.of_below b3)) (Ya n3 (Ya q3 (Ya (by omega : w.heap.size + 1 ≤ w2.heap.size) s3))))
 generalize hxb : w2.heap.size = xb at K3
 clear k1 q1 s1 hs2 k2 b3 n3 q3 s3 hw3 K1 hR2
 go_wp2_with fail
 rename_i hK
 refine hK _ _ ?_
 clear hK
 cases hq : wordQ e l it with
 | bad why at1 l2 =>
  rw [hq] at hc hsg
  rw [Qa hsg] at HPO
  clear hq hsg
  go_wp2_with fail
  rw [← Qa HW3]
  refine hc.mono ?_
  clear hc
  rintro en w4 ⟨rfl, k4⟩
  have H4 := hide ((Qa K3).1.trans k4)
  clear k4
  go_wp2_with fail
  refine ⟨rfl, ?_⟩
  rw [Qa HPO]
  exact ⟨rfl, Qa H4⟩
 | ok s l2 i2 =>
  rw [hq] at hc hsg
  clear hq
  go_wp2_with fail
  rw [← Qa HW3]
  clear HW3 hxb
  refine hc.mono ?_
  clear hc
  rintro en w4 ⟨_, rfl, rfl, hR4, k4⟩
  obtain ⟨k3, n3, q3, g1, s3⟩ := Qa K3
  have hs4 := k4.size
  have n4 := k4.keep n3 (by omega)
  have q4 := k4.keep q3 (by omega)
  have hne : w.heap.size ≠ xb := by omega
  obtain ⟨c0, c1, c2, cf⟩ := cl3 n4
  obtain ⟨w5, hw5⟩ : ∃ w5, w5 = w4.setCell ⟨xb, 0, none⟩ (str s) := ⟨_, rfl⟩
  have n5 : w5.heap[xb]? = some (.cells #[str s, .string ⟨#[]⟩, .int .i64 (t.at_ : Int)] 77 (0, 0)) := by rw [hw5]; exact (Qad n4 0 _).trans rfl
  have q5 : w5.heap[w.heap.size]? = some inZ := by rw [hw5, hpS hne]; exact q4
  have k5 : Kp rb w w5 := by rw [hw5]; exact (k3.trans k4).set2 (by omega)
  have hR5 : Rd rb e w5 l2 i2 dp := by rw [hw5]; exact hR4.set2 (by omega)
  have hwt := Qch hR5 [61] (by decide)
  have HW5 := hide hw5
  have K5 := hide (Ya k5 (Ya n5 (Ya q5 g1)))
  clear k3 n3 q3 g1 s3 hs4 n4 q4 c1 c2 hw5 n5 q5 k5 hR5 K3 hR4 k4
  cases hq : want e [61] l2 i2 with
  | bad why at1 l4 =>
   rw [hq] at hwt
   rw [Qa hsg, Rs.bind, hq] at HPO
   clear hq hsg
   go_wp2_with fail
   rw [← Qa HW5]
   refine hwt.mono ?_
   clear hwt
   rintro en w7 ⟨rfl, k7⟩
   have H7 := hide ((Qa K5).1.trans k7)
   clear k7
   go_wp2_with fail
   refine ⟨rfl, ?_⟩
   rw [Qa HPO]
   exact ⟨rfl, Qa H7⟩
  | ok u l3 i3 =>
   rw [hq] at hwt
   rw [Qa hsg, Rs.bind, hq, Rs.bind] at HPO
   clear hq hsg
   go_wp2_with fail
   rw [← Qa HW5]
   clear HW5
   refine hwt.mono ?_
   clear hwt
   rintro en w6 ⟨_, rfl, rfl, hR6, k6⟩
   have hnm := Qgf hR6
   have K6 := hide k6
   clear hR6 k6 c0 cf
   cases hq : nmQ e l3 i3 with
   | bad why at1 l4 =>
    rw [hq] at hnm HPO
    clear hq
    go_wp2_with fail
    refine hnm.mono ?_
    clear hnm
    rintro en w7 ⟨rfl, k7⟩
    have H7 := hide (((Qa K5).1.trans (Qa K6)).trans k7)
    clear k7
    go_wp2_with fail
    refine ⟨rfl, ?_⟩
    rw [Qa HPO]
    exact ⟨rfl, Qa H7⟩
   | ok cn l4 i4 =>
    rw [hq] at hnm HPO
    clear hq
    go_wp2_with fail
    refine hnm.mono ?_
    clear hnm
    rintro en w7 ⟨_, rfl, rfl, hR7, k7'⟩
    obtain ⟨k5, n5, q5, g1⟩ := Qa K5
    have k7 := (Qa K6).trans k7'
    have n7 := k7.keep n5 (by omega)
    have q7 := k7.keep q5 (by omega)
    obtain ⟨w8, hw8⟩ : ∃ w8, w8 = w7.setCell ⟨xb, 1, none⟩ (str cn) := ⟨_, rfl⟩
    have n8 : w8.heap[xb]? = some (.cells #[str s, str cn, .int .i64 (t.at_ : Int)] 77 (0, 0)) := by rw [hw8]; exact (Qad n7 1 _).trans rfl
    have q8 : w8.heap[w.heap.size]? = some inZ := by rw [hw8, hpS hne]; exact q7
    have k8 : Kp rb w w8 := by rw [hw8]; exact (k5.trans k7).set2 (by omega)
    have hR8 : Rd rb e w8 l4 i4 dp := by rw [hw8]; exact hR7.set2 (by omega)
    obtain ⟨x0, x1, x2, xf⟩ := cl3 n7
    obtain ⟨z0, z1, z2, zf⟩ := cl3 n8
    obtain ⟨y0, y1, y2, yf⟩ := cl3 q8
    have HF : Hid (∀ q0 q1 q2, Rd rb e (((w8.setCell ⟨w.heap.size, 0, none⟩ q0).setCell ⟨w.heap.size, 1, none⟩ q1).setCell ⟨w.heap.size, 2, none⟩ q2) l4 i4 dp ∧ Kp rb w (((w8.setCell ⟨w.heap.size, 0, none⟩ q0).setCell ⟨w.heap.size, 1, none⟩ q1).setCell ⟨w.heap.size, 2, none⟩ q2)) := fun q0 q1 q2 =>
     ⟨((hR8.set2 (by omega)).set2 (by omega)).set2 (by omega), ((k8.set2 (by omega)).set2 (by omega)).set2 (by omega)⟩
    clear hR7 k7 k5 n5 q5 g1 n7 q7 n8 q8 k8 hR8 x0 x2 zf hne k7'
    subst hw8
    go_wp2_with fail
    refine bodyPost_ret (v := .agg #[str s, str cn, .int .i64 t.at_]) (by simp [results, Tryz.results96, go_sem, y0, y1, y2]) rfl ?_
    rw [Qa HPO]
    exact ⟨_, rfl, rfl, Qa HF _ _ _⟩
end
end Go.Proofs.YtccehgfecaamoaaGreatDoor
