/- syn: the generic list, at Fld. syn: what stands between two signs, at Fld. syn: the generic list, at Ctr. syn: fields as parts; ctor. syn: instance. -/
import Derived.Test.YtdjehbdpcdikkaaGreatDoorMt10
import Derived.Test.YtdjehbdpcdikkaaGreatDoorMt14
namespace Go.Proofs.YtdjehbdpcdikkaaGreatDoor
open Go.RowKit Go.Maps

theorem infoF : ∃ i0 : TypeInfo, Tryz.prog.info? 124 = some i0 ∧ i0.zero = some (.agg #[.string ⟨#[]⟩, .string ⟨#[]⟩]) ∧ i0.size = 2 ∧ i0.bytes = 32 := by
 have h : (Tryz.prog.info? 124).map (fun i => (i.zero, i.size, i.bytes)) = some (some (.agg #[.string ⟨#[]⟩, .string ⟨#[]⟩]), 2, 32) := by kernel_rfl
 obtain ⟨i0, hi, hi3⟩ := Option.map_eq_some_iff.1 h
 simp only [Prod.mk.injEq] at hi3
 exact ⟨i0, hi, hi3⟩
/-- What is asked of a part. -/
def PartF (p : PS Fld) (rb e dp : Nat) (part : Pr Fld) : Prop := ∀ (w : World) (l : List Tok) (it : Nat), Rd rb e w l it dp → Calls Tryz.prog 157 #[.pointer (some ⟨rb, 0, none⟩)] w fun en w' => Ans rb e dp w (fun w2 v x => ∃ c0 c1, v = .agg #[c0, c1] ∧ (∀ c ∈ ([c0, c1] : List Value), c.oneCell' = true) ∧ p (fun b => w.heap.size ≤ b) w2 [c0, c1] x) (part l it) en w'

set_option maxRecDepth 100000 in
set_option maxHeartbeats 4000000 in
theorem listF_any (p : PS Fld) (hp : PSok p) {rb e dp : Nat} {part : Pr Fld} (hpart : PartF p rb e dp part) (hshr : Shr part) {w : World} {l : List Tok} {it : Nat} (h : Rd rb e w l it dp) (sep : Txt) (hsep : sep ≠ []) (most : Nat) :
  Calls Tryz.prog 183 #[.pointer (some ⟨rb, 0, none⟩), str sep, .int .i64 (most : Int), .func (.func 157) #[.pointer (some ⟨rb, 0, none⟩)] #[]] w fun en w' => Ans rb e dp w (fun w2 v xs => LsAt p 2 (fun b => w.heap.size ≤ b) w2 v xs) (listP e sep most part l it) en w' := by
 obtain ⟨r0, hr0⟩ : ∃ r0, r0 = listP e sep most part l it := ⟨_, rfl⟩
 have hst : LI p 2 124 rb e dp sep most part r0 w (.slice none 0 0) w [] l it (l.length + 1) := ⟨Kp.refl rb w, h, ⟨[], World.ownsRow_nil _ _ _ _, ⟨rfl, fun j x cs hx => by simp at hx⟩⟩, hr0, Nat.le_refl _, by have := h.len; simpa using this⟩
 rw [← hr0]
 obtain ⟨PO, hPO⟩ : ∃ PO : Ending → World → Prop, PO = fun en w' => Ans rb e dp w (fun w2 v xs => LsAt p 2 (fun b => w.heap.size ≤ b) w2 v xs) r0 en w' := ⟨_, rfl⟩
 rw [← hPO]
 have HPO := hide hPO
 have HST := hide hst
 have HP := hide (And.intro hpart (And.intro hshr hp))
 have hrb := h.lt
 clear hst hr0 hPO hpart hshr h hp
 obtain ⟨i0, hi, hz, hsz, hby⟩ := infoF
 have HIN := hide (And.intro hi (And.intro hz (And.intro hsz hby)))
 have ht : Tryz.prog.underlying 64 = some (.slice 124) := by kernel_rfl
 have HTY := hide ht
 clear hi hz hsz hby ht
 go_enter Tryz.func183, Tryz.ntmps183
 go_wp2_with fail
 go_loopw [9] (fun sl wr => ∃ acc l' it' f sa sc, sl = .slice sa (List.length acc) sc ∧ LI p 2 124 rb e dp sep most part r0 w sl wr acc l' it' f) (fun _ wr => left rb wr)
 case atStart => exact ⟨[], l, it, _, none, 0, rfl, unhide HST⟩
 case round =>
  obtain ⟨acc, l', it', f, sa, sc, rfl, hL⟩ := hrel
  clear HST
  obtain ⟨f', rfl⟩ : ∃ f', f = f' + 1 := ⟨f - 1, by have := hL.fuel; omega⟩
  by_cases hm : acc.length = most
  ·
   have hr := refuse_any hL.rd 3
   have hE : r0 = .bad 3 (ahd e 0 l').at_ l' := by
    rw [hL.eq]
    unfold listL
    rw [if_pos hm]; rfl
   have HE := hide (And.intro hE hL.kp)
   have hm2 : ((acc.length : Int) == (most : Int)) = true := by rw [hm]; simp
   clear hL hE hm
   generalize (ahd e 0 l').at_ = at0 at hr HE
   go_wp2_with fail
   refine hr.mono ?_
   clear hr
   rintro en w3 ⟨rfl, b3⟩
   have H3 := hide ((unhide HE).2.trans (Kp.of_below b3))
   clear b3
   go_wp2_with fail
   refine ⟨rfl, ?_⟩
   rw [unhide HPO, (unhide HE).1]
   exact ⟨rfl, unhide H3⟩
  ·
   have hm2 : ((acc.length : Int) == (most : Int)) = false := by simp; omega
   obtain ⟨hpart, hshr, hp⟩ := unhide HP
   have hc := hpart wr l' it' hL.rd
   have hE : r0 = (part l' it').bind fun x l i => if sgn e l = sep then listL e sep most part f' (acc ++ [x]) (l.drop 1) i else .ok (acc ++ [x]) l i := by
    rw [hL.eq]
    conv => lhs; unfold listL
    rw [if_neg hm]
   cases hq : part l' it' with
   | bad why at0 l2 =>
    rw [hq] at hc hE
    have HE := hide (And.intro hE hL.kp)
    clear hL hE hm hpart hshr hp hq
    go_wp2_with fail
    refine hc.mono ?_
    clear hc
    rintro en w3 ⟨rfl, k3⟩
    have H3 := hide ((unhide HE).2.trans k3)
    clear k3
    go_wp2_with fail
    refine ⟨rfl, ?_⟩
    rw [unhide HPO, (unhide HE).1]
    exact ⟨rfl, unhide H3⟩
   | ok x l2 i2 =>
    have hle := hshr _ _ _ _ _ hq
    rw [hq] at hc hE
    have HE := hide (And.intro hL hE)
    clear hL hE hm hpart hshr hp hq
    go_wp2_with fail
    refine hc.mono ?_
    clear hc
    rintro en w2 ⟨_, rfl, ⟨c0, c1, rfl, h1, hx⟩, hR2, k2⟩
    obtain ⟨hL, hE⟩ := unhide HE
    obtain ⟨hi, hz, hsz, hby⟩ := unhide HIN
    obtain ⟨r, w8, hrun, kp8, rd8, ⟨ra, rc, er⟩, hown8⟩ := hL.more (unhide HP).2.2 (unhide HTY) hi hz hsz hby rfl (by decide) (by decide) (cs := [c0, c1]) rfl h1 hx hR2 k2 hrb
    subst er
    have HRUN := hide hrun
    have hsk := skip_any rd8 sep hsep
    have hfu := hL.fuel
    have hfw := hL.few
    have hlf := left_rd hL.rd
    have H8 := hide (And.intro kp8 (And.intro hown8 hE))
    clear hL hE hi hz hsz hby h1 hx hR2 k2 hrun kp8 rd8 hown8 HE
    go_wp2_with (at_builtin; refine wpList_append_run _ rfl _ _ 64 rfl _ _ rfl rfl _ _ (unhide HRUN) ?_; clear HRUN)
    refine hsk.mono ?_
    clear hsk
    rintro en w9 ⟨rfl, hR9, k9⟩
    obtain ⟨kp8, ⟨css, ho8, ha8⟩, hE⟩ := unhide H8
    have own9 : w9.ownsRow w.heap.size 124 2 (.slice ra (acc.length + 1) rc) (acc ++ [x]).length css.flatten := by
     refine ⟨ho8.1, ?_⟩
     rcases ho8.2 with q | ⟨g, cap, cur, e1, e2, e3, e4⟩
     · exact .inl q
     · exact .inr ⟨g, cap, cur, e1, e2, k9.keep e3 (by omega), e4⟩
    have all9 := ha8.same (unhide HP).2.2 k9.size (fun b hs hb => k9.block b hb (by omega))
    have kp9 := kp8.trans k9
    clear kp8 ho8 ha8 k9 H8
    by_cases hS : sgn e l2 = sep
    ·
     rw [if_pos hS] at hR9
     have hS2 : decide (sgn e l2 = sep) = true := decide_eq_true hS
     obtain ⟨t2, l3, e2, hq2⟩ := sgn_cons hS hsep
     clear hq2
     subst e2
     have hN : LI p 2 124 rb e dp sep most part r0 w (.slice ra (acc.length + 1) rc) w9 (acc ++ [x]) l3 i2 f' := ⟨kp9, hR9, ⟨css, own9, all9⟩, by rw [hE]; show (if sgn e (t2 :: l3) = sep then _ else _) = _; rw [if_pos hS]; rfl, by simp at hle; omega, by simp at hle ⊢; omega⟩
     have hl9 := left_rd hR9
     have HN := hide hN
     rw [hS2]
     have HL9 := hide (And.intro hl9 (And.intro hlf hle))
     clear hN hR9 own9 all9 kp9 hE hS hS2 hl9 hlf hle
     go_wp2_with fail
     go_roundw
     case rel => exact ⟨_, _, _, _, ra, rc, by simp, unhide HN⟩
     case measure =>
      obtain ⟨q1, q2, q3⟩ := unhide HL9
      rw [q1, q2]
      simp at q3 ⊢
      omega
    ·
     rw [if_neg hS] at hR9
     have hS2 : decide (sgn e l2 = sep) = false := decide_eq_false hS
     have hF : r0 = .ok (acc ++ [x]) l2 i2 := by rw [hE]; show (if sgn e l2 = sep then _ else _) = _; rw [if_neg hS]
     have HF : Hid (r0 = .ok (acc ++ [x]) l2 i2 ∧ LsAt p 2 (fun b => w.heap.size ≤ b) w9 (.slice ra (acc.length + 1) rc) (acc ++ [x]) ∧ Rd rb e w9 l2 i2 dp ∧ Kp rb w w9) := ⟨hF, LsAt.of own9 (all9.mono (unhide HP).2.2 (fun b _ hs => hs.1)), hR9, kp9⟩
     rw [hS2]
     clear hF hR9 own9 all9 kp9 hE hS hS2 hlf hle
     go_wp2_with fail
     rw [unhide HPO, (unhide HF).1]
     exact ⟨_, rfl, (unhide HF).2⟩
end Go.Proofs.YtdjehbdpcdikkaaGreatDoor

namespace Go.Proofs.YtdjehbdpcdikkaaGreatDoor
open Go.RowKit Go.Maps

set_option maxRecDepth 100000 in
set_option maxHeartbeats 4000000 in
theorem enclF_any (p : PS Fld) (hp : PSok p) {rb e dp : Nat} {part : Pr Fld} (hpart : PartF p rb e dp part) (hshr : Shr part) {w : World} {l : List Tok} {it : Nat} (h : Rd rb e w l it dp) (op cl : Txt) (hop : op ≠ []) (hcl : cl ≠ []) :
  Calls Tryz.prog 156 #[.pointer (some ⟨rb, 0, none⟩), str op, str cl, .func (.func 157) #[.pointer (some ⟨rb, 0, none⟩)] #[]] w fun en w' => Ans rb e dp w (fun w2 v xs => LsAt p 2 (fun b => w.heap.size ≤ b) w2 v xs) (encl e op cl part l it) en w' := by
 have hw := want_any h op hop
 obtain ⟨PO, hPO⟩ : ∃ PO : Ending → World → Prop, PO = fun en w' => Ans rb e dp w (fun w2 v xs => LsAt p 2 (fun b => w.heap.size ≤ b) w2 v xs) (encl e op cl part l it) en w' := ⟨_, rfl⟩
 rw [← hPO]
 have hrb := h.lt
 have HP := hide (And.intro hpart (And.intro hshr hp))
 clear h hpart hshr hp
 unfold encl at hPO
 cases hq : want e op l it with
 | bad why at0 l2 =>
  rw [hq] at hw hPO
  have HPO := hide hPO
  clear hPO hq
  go_enter Tryz.func156, Tryz.ntmps156
  go_wp2_with fail
  refine hw.mono ?_
  clear hw
  rintro en w2 ⟨rfl, k2⟩
  have H2 := hide k2
  clear k2
  go_wp2_with fail
  refine ⟨rfl, ?_⟩
  rw [unhide HPO]
  exact ⟨rfl, unhide H2⟩
 | ok u l2 i2 =>
  rw [hq] at hw hPO
  have HPO := hide hPO
  clear hPO hq
  go_enter Tryz.func156, Tryz.ntmps156
  go_wp2_with fail
  refine hw.mono ?_
  clear hw
  rintro en w2 ⟨_, rfl, rfl, hR2, k2⟩
  have hsk := skip_any hR2 cl hcl
  have K2 := hide k2
  clear hR2 k2
  by_cases hS : sgn e l2 = cl
  ·
   rw [if_pos hS, decide_eq_true hS] at hsk
   have HP2 : Hid (PO = fun en w' => Ans rb e dp w (fun w2 v xs => LsAt p 2 (fun b => w.heap.size ≤ b) w2 v xs) (.ok [] (l2.drop 1) i2) en w') := by
    have := unhide HPO
    simp only [Rs.bind] at this
    rw [if_pos hS] at this
    exact this
   clear hS HPO
   go_wp2_with fail
   refine hsk.mono ?_
   clear hsk
   rintro en w3 ⟨rfl, hR3, k3⟩
   have H3 := hide (And.intro hR3 ((unhide K2).trans k3))
   clear hR3 k3
   go_wp2_with fail
   rw [unhide HP2]
   exact ⟨_, rfl, LsAt.nil _ _, unhide H3⟩
  ·
   rw [if_neg hS, decide_eq_false hS] at hsk
   have HP2 : Hid (PO = fun en w' => Ans rb e dp w (fun w2 v xs => LsAt p 2 (fun b => w.heap.size ≤ b) w2 v xs) ((listP e [44] 8 part l2 i2).bind fun xs l i => (want e cl l i).map fun _ => xs) en w') := by
    have := unhide HPO
    simp only [Rs.bind] at this
    rw [if_neg hS] at this
    exact this
   clear hS HPO
   go_wp2_with fail
   refine hsk.mono ?_
   clear hsk
   rintro en w3 ⟨rfl, hR3, k3⟩
   have hls := listF_any p (unhide HP).2.2 (unhide HP).1 (unhide HP).2.1 hR3 [44] (by simp) 8
   have K3 := hide ((unhide K2).trans k3)
   clear hR3 k3
   cases hq : listP e [44] 8 part l2 i2 with
   | bad why at0 l4 =>
    rw [hq] at hls
    have HP3 : Hid (PO = fun en w' => en = .panicked [{ v := stopV why at0, recovered := false }] ∧ Kp rb w w') := by
     have := unhide HP2
     rw [hq] at this
     exact this
    clear hq HP2
    go_wp2_with fail
    refine hls.mono ?_
    clear hls
    rintro en w4 ⟨rfl, k4⟩
    have H4 := hide ((unhide K3).trans k4)
    clear k4
    go_wp2_with fail
    refine ⟨rfl, ?_⟩
    rw [unhide HP3]
    exact ⟨rfl, unhide H4⟩
   | ok xs l4 i4 =>
    rw [hq] at hls
    have HP3 : Hid (PO = fun en w' => Ans rb e dp w (fun w2 v xs => LsAt p 2 (fun b => w.heap.size ≤ b) w2 v xs) ((want e cl l4 i4).map fun _ => xs) en w') := by
     have := unhide HP2
     rw [hq] at this
     exact this
    clear hq HP2
    go_wp2_with fail
    refine hls.mono ?_
    clear hls
    rintro en w4 ⟨lv, rfl, hLs, hR4, k4⟩
    obtain ⟨la, lc, lcss, elv, _⟩ := id hLs
    subst elv
    have hwt := want_any hR4 cl hcl
    have K4 := hide (And.intro ((unhide K3).trans k4) (And.intro (unhide K3).size hLs))
    clear hR4 k4 hLs
    cases hq2 : want e cl l4 i4 with
    | bad why at0 l5 =>
     rw [hq2] at hwt
     have HP4 : Hid (PO = fun en w' => en = .panicked [{ v := stopV why at0, recovered := false }] ∧ Kp rb w w') := by
      have := unhide HP3
      rw [hq2] at this
      exact this
     clear hq2 HP3
     go_wp2_with fail
     refine hwt.mono ?_
     clear hwt
     rintro en w5 ⟨rfl, k5⟩
     have H5 := hide ((unhide K4).1.trans k5)
     clear k5
     go_wp2_with fail
     refine ⟨rfl, ?_⟩
     rw [unhide HP4]
     exact ⟨rfl, unhide H5⟩
    | ok u5 l5 i5 =>
     rw [hq2] at hwt
     have HP4 : Hid (PO = fun en w' => ∃ v, en = .returned v ∧ LsAt p 2 (fun b => w.heap.size ≤ b) w' v xs ∧ Rd rb e w' l5 i5 dp ∧ Kp rb w w') := by
      have := unhide HP3
      rw [hq2] at this
      exact this
     clear hq2 HP3
     go_wp2_with fail
     refine hwt.mono ?_
     clear hwt
     rintro en w5 ⟨_, rfl, rfl, hR5, k5⟩
     have hL5 := ((unhide K4).2.2.mono (unhide HP).2.2 (S' := fun b => w.heap.size ≤ b) (fun b _ hs => Nat.le_trans (unhide K4).2.1 hs)).same (unhide HP).2.2 k5.size (fun b hs hb => k5.block b hb (by omega))
     have H5 := hide (And.intro hL5 (And.intro hR5 ((unhide K4).1.trans k5)))
     clear hL5 hR5 k5
     go_wp2_with fail
     rw [unhide HP4]
     exact ⟨_, rfl, unhide H5⟩
end Go.Proofs.YtdjehbdpcdikkaaGreatDoor

namespace Go.Proofs.YtdjehbdpcdikkaaGreatDoor
open Go.RowKit Go.Maps

theorem infoC : ∃ i0 : TypeInfo, Tryz.prog.info? 120 = some i0 ∧ i0.zero = some (.agg #[.string ⟨#[]⟩, .slice none 0 0]) ∧ i0.size = 2 ∧ i0.bytes = 40 := by
 have h : (Tryz.prog.info? 120).map (fun i => (i.zero, i.size, i.bytes)) = some (some (.agg #[.string ⟨#[]⟩, .slice none 0 0]), 2, 40) := by kernel_rfl
 obtain ⟨i0, hi, hi3⟩ := Option.map_eq_some_iff.1 h
 simp only [Prod.mk.injEq] at hi3
 exact ⟨i0, hi, hi3⟩
/-- What is asked of a part. -/
def PartC (p : PS Ctr) (rb e dp : Nat) (part : Pr Ctr) : Prop := ∀ (w : World) (l : List Tok) (it : Nat), Rd rb e w l it dp → Calls Tryz.prog 155 #[.pointer (some ⟨rb, 0, none⟩)] w fun en w' => Ans rb e dp w (fun w2 v x => ∃ c0 c1, v = .agg #[c0, c1] ∧ (∀ c ∈ ([c0, c1] : List Value), c.oneCell' = true) ∧ p (fun b => w.heap.size ≤ b) w2 [c0, c1] x) (part l it) en w'

set_option maxRecDepth 100000 in
set_option maxHeartbeats 4000000 in
theorem listC_any (p : PS Ctr) (hp : PSok p) {rb e dp : Nat} {part : Pr Ctr} (hpart : PartC p rb e dp part) (hshr : Shr part) {w : World} {l : List Tok} {it : Nat} (h : Rd rb e w l it dp) (sep : Txt) (hsep : sep ≠ []) (most : Nat) :
  Calls Tryz.prog 154 #[.pointer (some ⟨rb, 0, none⟩), str sep, .int .i64 (most : Int), .func (.func 155) #[.pointer (some ⟨rb, 0, none⟩)] #[]] w fun en w' => Ans rb e dp w (fun w2 v xs => LsAt p 2 (fun b => w.heap.size ≤ b) w2 v xs) (listP e sep most part l it) en w' := by
 obtain ⟨r0, hr0⟩ : ∃ r0, r0 = listP e sep most part l it := ⟨_, rfl⟩
 have hst : LI p 2 120 rb e dp sep most part r0 w (.slice none 0 0) w [] l it (l.length + 1) := ⟨Kp.refl rb w, h, ⟨[], World.ownsRow_nil _ _ _ _, ⟨rfl, fun j x cs hx => by simp at hx⟩⟩, hr0, Nat.le_refl _, by have := h.len; simpa using this⟩
 rw [← hr0]
 obtain ⟨PO, hPO⟩ : ∃ PO : Ending → World → Prop, PO = fun en w' => Ans rb e dp w (fun w2 v xs => LsAt p 2 (fun b => w.heap.size ≤ b) w2 v xs) r0 en w' := ⟨_, rfl⟩
 rw [← hPO]
 have HPO := hide hPO
 have HST := hide hst
 have HP := hide (And.intro hpart (And.intro hshr hp))
 have hrb := h.lt
 clear hst hr0 hPO hpart hshr h hp
 obtain ⟨i0, hi, hz, hsz, hby⟩ := infoC
 have HIN := hide (And.intro hi (And.intro hz (And.intro hsz hby)))
 have ht : Tryz.prog.underlying 59 = some (.slice 120) := by kernel_rfl
 have HTY := hide ht
 clear hi hz hsz hby ht
 go_enter Tryz.func154, Tryz.ntmps154
 go_wp2_with fail
 go_loopw [9] (fun sl wr => ∃ acc l' it' f sa sc, sl = .slice sa (List.length acc) sc ∧ LI p 2 120 rb e dp sep most part r0 w sl wr acc l' it' f) (fun _ wr => left rb wr)
 case atStart => exact ⟨[], l, it, _, none, 0, rfl, unhide HST⟩
 case round =>
  obtain ⟨acc, l', it', f, sa, sc, rfl, hL⟩ := hrel
  clear HST
  obtain ⟨f', rfl⟩ : ∃ f', f = f' + 1 := ⟨f - 1, by have := hL.fuel; omega⟩
  by_cases hm : acc.length = most
  ·
   have hr := refuse_any hL.rd 3
   have hE : r0 = .bad 3 (ahd e 0 l').at_ l' := by
    rw [hL.eq]
    unfold listL
    rw [if_pos hm]; rfl
   have HE := hide (And.intro hE hL.kp)
   have hm2 : ((acc.length : Int) == (most : Int)) = true := by rw [hm]; simp
   clear hL hE hm
   generalize (ahd e 0 l').at_ = at0 at hr HE
   go_wp2_with fail
   refine hr.mono ?_
   clear hr
   rintro en w3 ⟨rfl, b3⟩
   have H3 := hide ((unhide HE).2.trans (Kp.of_below b3))
   clear b3
   go_wp2_with fail
   refine ⟨rfl, ?_⟩
   rw [unhide HPO, (unhide HE).1]
   exact ⟨rfl, unhide H3⟩
  ·
   have hm2 : ((acc.length : Int) == (most : Int)) = false := by simp; omega
   obtain ⟨hpart, hshr, hp⟩ := unhide HP
   have hc := hpart wr l' it' hL.rd
   have hE : r0 = (part l' it').bind fun x l i => if sgn e l = sep then listL e sep most part f' (acc ++ [x]) (l.drop 1) i else .ok (acc ++ [x]) l i := by
    rw [hL.eq]
    conv => lhs; unfold listL
    rw [if_neg hm]
   cases hq : part l' it' with
   | bad why at0 l2 =>
    rw [hq] at hc hE
    have HE := hide (And.intro hE hL.kp)
    clear hL hE hm hpart hshr hp hq
    go_wp2_with fail
    refine hc.mono ?_
    clear hc
    rintro en w3 ⟨rfl, k3⟩
    have H3 := hide ((unhide HE).2.trans k3)
    clear k3
    go_wp2_with fail
    refine ⟨rfl, ?_⟩
    rw [unhide HPO, (unhide HE).1]
    exact ⟨rfl, unhide H3⟩
   | ok x l2 i2 =>
    have hle := hshr _ _ _ _ _ hq
    rw [hq] at hc hE
    have HE := hide (And.intro hL hE)
    clear hL hE hm hpart hshr hp hq
    go_wp2_with fail
    refine hc.mono ?_
    clear hc
    rintro en w2 ⟨_, rfl, ⟨c0, c1, rfl, h1, hx⟩, hR2, k2⟩
    obtain ⟨hL, hE⟩ := unhide HE
    obtain ⟨hi, hz, hsz, hby⟩ := unhide HIN
    obtain ⟨r, w8, hrun, kp8, rd8, ⟨ra, rc, er⟩, hown8⟩ := hL.more (unhide HP).2.2 (unhide HTY) hi hz hsz hby rfl (by decide) (by decide) (cs := [c0, c1]) rfl h1 hx hR2 k2 hrb
    subst er
    have HRUN := hide hrun
    have hsk := skip_any rd8 sep hsep
    have hfu := hL.fuel
    have hfw := hL.few
    have hlf := left_rd hL.rd
    have H8 := hide (And.intro kp8 (And.intro hown8 hE))
    clear hL hE hi hz hsz hby h1 hx hR2 k2 hrun kp8 rd8 hown8 HE
    go_wp2_with (at_builtin; refine wpList_append_run _ rfl _ _ 59 rfl _ _ rfl rfl _ _ (unhide HRUN) ?_; clear HRUN)
    refine hsk.mono ?_
    clear hsk
    rintro en w9 ⟨rfl, hR9, k9⟩
    obtain ⟨kp8, ⟨css, ho8, ha8⟩, hE⟩ := unhide H8
    have own9 : w9.ownsRow w.heap.size 120 2 (.slice ra (acc.length + 1) rc) (acc ++ [x]).length css.flatten := by
     refine ⟨ho8.1, ?_⟩
     rcases ho8.2 with q | ⟨g, cap, cur, e1, e2, e3, e4⟩
     · exact .inl q
     · exact .inr ⟨g, cap, cur, e1, e2, k9.keep e3 (by omega), e4⟩
    have all9 := ha8.same (unhide HP).2.2 k9.size (fun b hs hb => k9.block b hb (by omega))
    have kp9 := kp8.trans k9
    clear kp8 ho8 ha8 k9 H8
    by_cases hS : sgn e l2 = sep
    ·
     rw [if_pos hS] at hR9
     have hS2 : decide (sgn e l2 = sep) = true := decide_eq_true hS
     obtain ⟨t2, l3, e2, hq2⟩ := sgn_cons hS hsep
     clear hq2
     subst e2
     have hN : LI p 2 120 rb e dp sep most part r0 w (.slice ra (acc.length + 1) rc) w9 (acc ++ [x]) l3 i2 f' := ⟨kp9, hR9, ⟨css, own9, all9⟩, by rw [hE]; show (if sgn e (t2 :: l3) = sep then _ else _) = _; rw [if_pos hS]; rfl, by simp at hle; omega, by simp at hle ⊢; omega⟩
     have hl9 := left_rd hR9
     have HN := hide hN
     rw [hS2]
     have HL9 := hide (And.intro hl9 (And.intro hlf hle))
     clear hN hR9 own9 all9 kp9 hE hS hS2 hl9 hlf hle
     go_wp2_with fail
     go_roundw
     case rel => exact ⟨_, _, _, _, ra, rc, by simp, unhide HN⟩
     case measure =>
      obtain ⟨q1, q2, q3⟩ := unhide HL9
      rw [q1, q2]
      simp at q3 ⊢
      omega
    ·
     rw [if_neg hS] at hR9
     have hS2 : decide (sgn e l2 = sep) = false := decide_eq_false hS
     have hF : r0 = .ok (acc ++ [x]) l2 i2 := by rw [hE]; show (if sgn e l2 = sep then _ else _) = _; rw [if_neg hS]
     have HF : Hid (r0 = .ok (acc ++ [x]) l2 i2 ∧ LsAt p 2 (fun b => w.heap.size ≤ b) w9 (.slice ra (acc.length + 1) rc) (acc ++ [x]) ∧ Rd rb e w9 l2 i2 dp ∧ Kp rb w w9) := ⟨hF, LsAt.of own9 (all9.mono (unhide HP).2.2 (fun b _ hs => hs.1)), hR9, kp9⟩
     rw [hS2]
     clear hF hR9 own9 all9 kp9 hE hS hS2 hlf hle
     go_wp2_with fail
     rw [unhide HPO, (unhide HF).1]
     exact ⟨_, rfl, (unhide HF).2⟩
end Go.Proofs.YtdjehbdpcdikkaaGreatDoor

namespace Go.Proofs.YtdjehbdpcdikkaaGreatDoor
open Go.RowKit Go.Maps

/-- A field's two cells. -/
def PF : PS Fld := fun _ _ cs f => cs = [str f.name, str f.type]
theorem pf_ok : PSok PF where
 mono := fun _ _ _ _ _ h _ => h
 same := fun _ _ _ _ _ h _ _ => h
theorem partF_of {rb e dp : Nat} : PartF PF rb e dp (fieldP e) := fun w l it hR => by
 refine (field_any hR).mono ?_
 intro en w' ha
 cases hq : fieldP e l it with
 | bad why at0 l2 => rw [hq] at ha; exact ha
 | ok x l2 i2 =>
  rw [hq] at ha
  obtain ⟨v, e1, e2, h3, h4⟩ := ha
  exact ⟨v, e1, ⟨_, _, e2, fun c hc => by
   simp only [List.mem_cons, List.not_mem_nil, or_false] at hc
   rcases hc with rfl | rfl <;> rfl, rfl⟩, h3, h4⟩
theorem cl2 {w : World} {b : Nat} {T : TypeId} {v0 v1 : Value} (h : w.heap[b]? = some (.cells #[v0, v1] T (0, 0))) :
  w.cell? ⟨b, 0, none⟩ = some v0 ∧ w.cell? ⟨b, 1, none⟩ = some v1 ∧ ∀ o, w.frozen? ⟨b, o, none⟩ = false :=
 ⟨(cell_hp h 0).trans rfl, (cell_hp h 1).trans rfl, fun o => by simp [World.frozen?, h]⟩
abbrev ctZ : Obj := .cells #[.string ⟨#[]⟩, .slice none 0 0] 120
/-- A constructor's two cells. -/
def PC : PS Ctr := fun S w cs c => ∃ xa xn xc, cs = [str c.name, .slice xa xn xc] ∧ LsAt PF 2 S w (.slice xa xn xc) c.fields
theorem pc_ok : PSok PC where
 mono := fun _ _ _ _ _ ⟨xa, xn, xc, h1, h2⟩ hS => ⟨xa, xn, xc, h1, h2.mono pf_ok hS⟩
 same := fun _ _ _ _ _ ⟨xa, xn, xc, h1, h2⟩ hs hb => ⟨xa, xn, xc, h1, h2.same pf_ok hs hb⟩

set_option maxRecDepth 100000 in
set_option maxHeartbeats 4000000 in
theorem ctor_any {rb e dp : Nat} {w : World} {l : List Tok} {it : Nat} (h : Rd rb e w l it dp) :
  Calls Tryz.prog 155 #[.pointer (some ⟨rb, 0, none⟩)] w fun en w' => Ans rb e dp w (fun w2 v x => ∃ xa xn xc, v = .agg #[str x.name, .slice xa xn xc] ∧ LsAt PF 2 (fun b => w.heap.size ≤ b) w2 (.slice xa xn xc) x.fields) (ctorP e l it) en w' := by
 obtain ⟨w1, hw1⟩ : ∃ w1, w1 = w.alloc ctZ := ⟨_, rfl⟩
 have b1 : Below w.heap.size w w1 := by rw [hw1]; exact (Below.refl _ w).alloc (Nat.le_refl _) _
 have q1 : w1.heap[w.heap.size]? = some ctZ := by rw [hw1]; exact heap_alloc_new w _
 have s1 : w1.heap.size = w.heap.size + 1 := by rw [hw1]; simp
 have hc := wordq_any (h.later b1)
 have hrb := h.lt
 obtain ⟨PO, hPO⟩ : ∃ PO : Ending → World → Prop, PO = fun en w' => Ans rb e dp w (fun w2 v x => ∃ xa xn xc, v = .agg #[str x.name, .slice xa xn xc] ∧ LsAt PF 2 (fun b => w.heap.size ≤ b) w2 (.slice xa xn xc) x.fields) (ctorP e l it) en w' := ⟨_, rfl⟩
 rw [← hPO]
 have HW1 : Hid (w1 = w.alloc (.cells #[.string ⟨#[]⟩, .slice none 0 0] 120)) := hw1
 have HPO := hide hPO
 have hsg : Hid (ctorP e l it = (wordQ e l it).bind fun n l i => (encl e [123] [125] (fieldP e) l i).map fun fs => ⟨n, fs⟩) := rfl
 generalize ctorP e l it = sr at HPO hsg
 have K1 := hide (And.intro (Kp.of_below (rb := rb) b1) (And.intro q1 s1))
 clear h b1 q1 s1 hw1 hPO
 cases hq : wordQ e l it with
 | bad why at1 l2 =>
  rw [hq] at hc hsg
  rw [unhide hsg] at HPO
  clear hq hsg
  go_enter Tryz.func155, Tryz.ntmps155
  go_wp2_with fail
  rw [← unhide HW1]
  refine hc.mono ?_
  clear hc
  rintro en w4 ⟨rfl, k4⟩
  have H4 := hide ((unhide K1).1.trans k4)
  clear k4
  go_wp2_with fail
  refine ⟨rfl, ?_⟩
  rw [unhide HPO]
  exact ⟨rfl, unhide H4⟩
 | ok s l2 i2 =>
  rw [hq] at hc hsg
  clear hq
  go_enter Tryz.func155, Tryz.ntmps155
  go_wp2_with fail
  rw [← unhide HW1]
  clear HW1
  refine hc.mono ?_
  clear hc
  rintro en w4 ⟨_, rfl, rfl, hR4, k4⟩
  obtain ⟨k1, q1, s1⟩ := unhide K1
  have hs4 := k4.size
  obtain ⟨w5, hw5⟩ : ∃ w5, w5 = w4.alloc (.cells #[str s, .slice none 0 0] 120) := ⟨_, rfl⟩
  have b5 : Below w4.heap.size w4 w5 := by rw [hw5]; exact (Below.refl _ w4).alloc (Nat.le_refl _) _
  have n5 : w5.heap[w4.heap.size]? = some (.cells #[str s, .slice none 0 0] 120 (0, 0)) := by rw [hw5]; exact heap_alloc_new w4 _
  have q5 : w5.heap[w.heap.size]? = some ctZ := (b5.block _ (by omega)).trans (k4.keep q1 (by omega))
  have k5 : Kp rb w w5 := (k1.trans k4).trans (Kp.of_below b5)
  have s5 : w5.heap.size = w4.heap.size + 1 := by rw [hw5]; simp
  have hen := enclF_any PF pf_ok partF_of shr_field (hR4.later b5) [123] [125] (by decide) (by decide)
  have HW5 := hide hw5
  have K5 := hide (And.intro k5 (And.intro n5 (And.intro q5 (And.intro (by omega : w.heap.size + 1 ≤ w4.heap.size) (by omega : w4.heap.size < w5.heap.size)))))
  generalize hxb : w4.heap.size = xb at K5
  clear k1 q1 s1 hs4 hw5 b5 n5 q5 k5 s5 K1 hR4 k4
  cases hq : encl e [123] [125] (fieldP e) l2 i2 with
  | bad why at1 l4 =>
   rw [hq] at hen
   rw [unhide hsg, Rs.bind, hq] at HPO
   clear hq hsg
   go_wp2_with fail
   rw [← unhide HW5]
   refine hen.mono ?_
   clear hen
   rintro en w7 ⟨rfl, k7⟩
   have H7 := hide ((unhide K5).1.trans k7)
   clear k7
   go_wp2_with fail
   refine ⟨rfl, ?_⟩
   rw [unhide HPO]
   exact ⟨rfl, unhide H7⟩
  | ok ks l4 i4 =>
   rw [hq] at hen
   rw [unhide hsg, Rs.bind, hq] at HPO
   clear hq hsg
   go_wp2_with fail
   rw [← unhide HW5]
   clear HW5 hxb
   refine hen.mono ?_
   clear hen
   rintro en w7 ⟨_, rfl, hL, hR7, k7⟩
   obtain ⟨ka, kc, _, ev, _⟩ := id hL
   subst ev
   obtain ⟨k5, n5, q5, g1, g2⟩ := unhide K5
   have n7 := k7.keep n5 (by omega)
   have q7 := k7.keep q5 (by omega)
   have hne : w.heap.size ≠ xb := by omega
   obtain ⟨w8, hw8⟩ : ∃ w8, w8 = w7.setCell ⟨xb, 1, none⟩ (.slice ka ks.length kc) := ⟨_, rfl⟩
   have n8 : w8.heap[xb]? = some (.cells #[str s, .slice ka ks.length kc] 120 (0, 0)) := by rw [hw8]; exact (set_hp n7 1 _).trans rfl
   have q8 : w8.heap[w.heap.size]? = some ctZ := by rw [hw8, Below.heap_setCell _ _ _ _ hne]; exact q7
   have k8 : Kp rb w w8 := by rw [hw8]; exact (k5.trans k7).set2 (by omega)
   have hR8 : Rd rb e w8 l4 i4 dp := by rw [hw8]; exact hR7.set2 (by omega)
   have hL8 : LsAt PF 2 (fun b => w5.heap.size ≤ b) w8 (.slice ka ks.length kc) ks := by
    refine hL.same pf_ok (by rw [hw8]; simp [World.setCell]) (fun b hb hl => ?_)
    have hb' : w5.heap.size ≤ b := hb
    have hn : b ≠ xb := by omega
    rw [hw8, Below.heap_setCell _ _ _ _ hn]
   obtain ⟨x0, x1, xf⟩ := cl2 n7
   obtain ⟨z0, z1, zf⟩ := cl2 n8
   obtain ⟨y0, y1, yf⟩ := cl2 q8
   have HF : Hid (∀ q0 q1, (∃ xa xn xc, (.agg #[str s, .slice ka ks.length kc] : Value) = .agg #[str s, .slice xa xn xc] ∧ LsAt PF 2 (fun b => w.heap.size ≤ b) ((w8.setCell ⟨w.heap.size, 0, none⟩ q0).setCell ⟨w.heap.size, 1, none⟩ q1) (.slice xa xn xc) ks) ∧ Rd rb e ((w8.setCell ⟨w.heap.size, 0, none⟩ q0).setCell ⟨w.heap.size, 1, none⟩ q1) l4 i4 dp ∧ Kp rb w ((w8.setCell ⟨w.heap.size, 0, none⟩ q0).setCell ⟨w.heap.size, 1, none⟩ q1)) := fun q0 q1 => by
    have hsame : ∀ b, b ≠ w.heap.size → ((w8.setCell ⟨w.heap.size, 0, none⟩ q0).setCell ⟨w.heap.size, 1, none⟩ q1).heap[b]? = w8.heap[b]? := fun b hb => by
     rw [Below.heap_setCell _ _ _ _ hb, Below.heap_setCell _ _ _ _ hb]
    exact ⟨⟨_, _, _, rfl, (hL8.same pf_ok (by simp [World.setCell]) (fun b hb hl => hsame b (by have hb' : w5.heap.size ≤ b := hb; omega))).mono pf_ok (fun b _ hb => by have hb' : w5.heap.size ≤ b := hb; omega)⟩, (hR8.set2 (by omega)).set2 (by omega), (k8.set2 (by omega)).set2 (by omega)⟩
   clear hR7 k7 k5 n5 q5 g1 g2 n7 q7 n8 q8 k8 hR8 hL8 hL x0 zf hne
   subst hw8
   go_wp2_with fail
   refine bodyPost_ret (v := .agg #[str s, .slice ka ks.length kc]) (by simp [results, Tryz.results155, go_sem, y0, y1]) rfl ?_
   rw [unhide HPO]
   exact ⟨_, rfl, unhide HF _ _⟩
theorem partC_of {rb e dp : Nat} : PartC PC rb e dp (ctorP e) := fun w l it hR => by
 refine (ctor_any hR).mono ?_
 intro en w' ha
 cases hq : ctorP e l it with
 | bad why at0 l2 => rw [hq] at ha; exact ha
 | ok x l2 i2 =>
  rw [hq] at ha
  obtain ⟨v, e1, ⟨xa, xn, xc, e2, hL⟩, h3, h4⟩ := ha
  exact ⟨v, e1, ⟨_, _, e2, fun c hc => by
   simp only [List.mem_cons, List.not_mem_nil, or_false] at hc
   rcases hc with rfl | rfl <;> rfl, ⟨xa, xn, xc, rfl, hL⟩⟩, h3, h4⟩
end Go.Proofs.YtdjehbdpcdikkaaGreatDoor

namespace Go.Proofs.YtdjehbdpcdikkaaGreatDoor
open Go.RowKit Go.Maps

abbrev inZ : Obj := .cells #[.string ⟨#[]⟩, .string ⟨#[]⟩, .int .i64 0] 74

set_option maxRecDepth 100000 in
set_option maxHeartbeats 4000000 in
theorem instance_any {rb e dp : Nat} {w : World} {t : Tok} {l : List Tok} {it : Nat} (h : Rd rb e w (t :: l) it dp) :
  Calls Tryz.prog 137 #[.pointer (some ⟨rb, 0, none⟩)] w fun en w' => Ans rb e dp w (fun _ v x => v = .agg #[str x.name, str x.comp, .int .i64 x.at_]) (initP e (t :: l) it) en w' := by
 obtain ⟨w1, hw1⟩ : ∃ w1, w1 = w.alloc inZ := ⟨_, rfl⟩
 have b1 : Below w.heap.size w w1 := by rw [hw1]; exact (Below.refl _ w).alloc (Nat.le_refl _) _
 have q1 : w1.heap[w.heap.size]? = some inZ := by rw [hw1]; exact heap_alloc_new w _
 have s1 : w1.heap.size = w.heap.size + 1 := by rw [hw1]; simp
 have ha : Calls Tryz.prog 150 #[.pointer (some ⟨rb, 0, none⟩)] w1 fun en w' => en = .returned (.agg #[.int .i64 t.kind, str t.text, .int .i64 t.num, .int .i64 (t.at_ : Int)]) ∧ Rd rb e w' l it dp ∧ Kp rb w1 w' := take_any (h.later b1)
 have hrb := h.lt
 obtain ⟨PO, hPO⟩ : ∃ PO : Ending → World → Prop, PO = fun en w' => Ans rb e dp w (fun _ v x => v = .agg #[str x.name, str x.comp, .int .i64 x.at_]) (initP e (t :: l) it) en w' := ⟨_, rfl⟩
 rw [← hPO]
 have HW1 : Hid (w1 = w.alloc (.cells #[.string ⟨#[]⟩, .string ⟨#[]⟩, .int .i64 0] 74)) := hw1
 have HPO := hide hPO
 have hsg : Hid (initP e (t :: l) it = (wordQ e l it).bind fun n l2 i => (want e [61] l2 i).bind fun _ l3 i => (nmQ e l3 i).map fun c => ⟨n, c, t.at_⟩) := rfl
 generalize initP e (t :: l) it = sr at HPO hsg
 have K1 := hide (And.intro (Kp.of_below (rb := rb) b1) (And.intro q1 s1))
 clear h b1 q1 s1 hw1 hPO
 go_enter Tryz.func137, Tryz.ntmps137
 go_wp2_with fail
 rw [← unhide HW1]
 refine ha.mono ?_
 clear ha
 rintro en w2 ⟨rfl, hR2, k2⟩
 obtain ⟨k1, q1, s1⟩ := unhide K1
 have hs2 := k2.size
 obtain ⟨w3, hw3⟩ : ∃ w3, w3 = w2.alloc (.cells #[.string ⟨#[]⟩, .string ⟨#[]⟩, .int .i64 (t.at_ : Int)] 74) := ⟨_, rfl⟩
 have b3 : Below w2.heap.size w2 w3 := by rw [hw3]; exact (Below.refl _ w2).alloc (Nat.le_refl _) _
 have n3 : w3.heap[w2.heap.size]? = some (.cells #[.string ⟨#[]⟩, .string ⟨#[]⟩, .int .i64 (t.at_ : Int)] 74 (0, 0)) := by rw [hw3]; exact heap_alloc_new w2 _
 have q3 : w3.heap[w.heap.size]? = some inZ := (b3.block _ (by omega)).trans (k2.keep q1 (by omega))
 have s3 : w3.heap.size = w2.heap.size + 1 := by rw [hw3]; simp
 have hc := wordq_any (hR2.later b3)
 have HW3 := hide hw3
 have K3 := hide (And.intro ((k1.trans k2).trans (Kp.of_below b3)) (And.intro n3 (And.intro q3 (And.intro (by omega : w.heap.size + 1 ≤ w2.heap.size) s3))))
 generalize hxb : w2.heap.size = xb at K3
 clear k1 q1 s1 hs2 k2 b3 n3 q3 s3 hw3 K1 hR2
 go_wp2_with fail
 rename_i hK
 refine hK _ _ ?_
 clear hK
 cases hq : wordQ e l it with
 | bad why at1 l2 =>
  rw [hq] at hc hsg
  rw [unhide hsg] at HPO
  clear hq hsg
  go_wp2_with fail
  rw [← unhide HW3]
  refine hc.mono ?_
  clear hc
  rintro en w4 ⟨rfl, k4⟩
  have H4 := hide ((unhide K3).1.trans k4)
  clear k4
  go_wp2_with fail
  refine ⟨rfl, ?_⟩
  rw [unhide HPO]
  exact ⟨rfl, unhide H4⟩
 | ok s l2 i2 =>
  rw [hq] at hc hsg
  clear hq
  go_wp2_with fail
  rw [← unhide HW3]
  clear HW3 hxb
  refine hc.mono ?_
  clear hc
  rintro en w4 ⟨_, rfl, rfl, hR4, k4⟩
  obtain ⟨k3, n3, q3, g1, s3⟩ := unhide K3
  have hs4 := k4.size
  have n4 := k4.keep n3 (by omega)
  have q4 := k4.keep q3 (by omega)
  have hne : w.heap.size ≠ xb := by omega
  obtain ⟨c0, c1, c2, cf⟩ := cl3 n4
  obtain ⟨w5, hw5⟩ : ∃ w5, w5 = w4.setCell ⟨xb, 0, none⟩ (str s) := ⟨_, rfl⟩
  have n5 : w5.heap[xb]? = some (.cells #[str s, .string ⟨#[]⟩, .int .i64 (t.at_ : Int)] 74 (0, 0)) := by rw [hw5]; exact (set_hp n4 0 _).trans rfl
  have q5 : w5.heap[w.heap.size]? = some inZ := by rw [hw5, Below.heap_setCell _ _ _ _ hne]; exact q4
  have k5 : Kp rb w w5 := by rw [hw5]; exact (k3.trans k4).set2 (by omega)
  have hR5 : Rd rb e w5 l2 i2 dp := by rw [hw5]; exact hR4.set2 (by omega)
  have hwt := want_any hR5 [61] (by decide)
  have HW5 := hide hw5
  have K5 := hide (And.intro k5 (And.intro n5 (And.intro q5 g1)))
  clear k3 n3 q3 g1 s3 hs4 n4 q4 c1 c2 hw5 n5 q5 k5 hR5 K3 hR4 k4
  cases hq : want e [61] l2 i2 with
  | bad why at1 l4 =>
   rw [hq] at hwt
   rw [unhide hsg, Rs.bind, hq] at HPO
   clear hq hsg
   go_wp2_with fail
   rw [← unhide HW5]
   refine hwt.mono ?_
   clear hwt
   rintro en w7 ⟨rfl, k7⟩
   have H7 := hide ((unhide K5).1.trans k7)
   clear k7
   go_wp2_with fail
   refine ⟨rfl, ?_⟩
   rw [unhide HPO]
   exact ⟨rfl, unhide H7⟩
  | ok u l3 i3 =>
   rw [hq] at hwt
   rw [unhide hsg, Rs.bind, hq, Rs.bind] at HPO
   clear hq hsg
   go_wp2_with fail
   rw [← unhide HW5]
   clear HW5
   refine hwt.mono ?_
   clear hwt
   rintro en w6 ⟨_, rfl, rfl, hR6, k6⟩
   have hnm := name_any hR6
   have K6 := hide k6
   clear hR6 k6 c0 cf
   cases hq : nmQ e l3 i3 with
   | bad why at1 l4 =>
    rw [hq] at hnm HPO
    clear hq
    go_wp2_with fail
    refine hnm.mono ?_
    clear hnm
    rintro en w7 ⟨rfl, k7⟩
    have H7 := hide (((unhide K5).1.trans (unhide K6)).trans k7)
    clear k7
    go_wp2_with fail
    refine ⟨rfl, ?_⟩
    rw [unhide HPO]
    exact ⟨rfl, unhide H7⟩
   | ok cn l4 i4 =>
    rw [hq] at hnm HPO
    clear hq
    go_wp2_with fail
    refine hnm.mono ?_
    clear hnm
    rintro en w7 ⟨_, rfl, rfl, hR7, k7'⟩
    obtain ⟨k5, n5, q5, g1⟩ := unhide K5
    have k7 := (unhide K6).trans k7'
    have n7 := k7.keep n5 (by omega)
    have q7 := k7.keep q5 (by omega)
    obtain ⟨w8, hw8⟩ : ∃ w8, w8 = w7.setCell ⟨xb, 1, none⟩ (str cn) := ⟨_, rfl⟩
    have n8 : w8.heap[xb]? = some (.cells #[str s, str cn, .int .i64 (t.at_ : Int)] 74 (0, 0)) := by rw [hw8]; exact (set_hp n7 1 _).trans rfl
    have q8 : w8.heap[w.heap.size]? = some inZ := by rw [hw8, Below.heap_setCell _ _ _ _ hne]; exact q7
    have k8 : Kp rb w w8 := by rw [hw8]; exact (k5.trans k7).set2 (by omega)
    have hR8 : Rd rb e w8 l4 i4 dp := by rw [hw8]; exact hR7.set2 (by omega)
    obtain ⟨x0, x1, x2, xf⟩ := cl3 n7
    obtain ⟨z0, z1, z2, zf⟩ := cl3 n8
    obtain ⟨y0, y1, y2, yf⟩ := cl3 q8
    have HF : Hid (∀ q0 q1 q2, Rd rb e (((w8.setCell ⟨w.heap.size, 0, none⟩ q0).setCell ⟨w.heap.size, 1, none⟩ q1).setCell ⟨w.heap.size, 2, none⟩ q2) l4 i4 dp ∧ Kp rb w (((w8.setCell ⟨w.heap.size, 0, none⟩ q0).setCell ⟨w.heap.size, 1, none⟩ q1).setCell ⟨w.heap.size, 2, none⟩ q2)) := fun q0 q1 q2 =>
     ⟨((hR8.set2 (by omega)).set2 (by omega)).set2 (by omega), ((k8.set2 (by omega)).set2 (by omega)).set2 (by omega)⟩
    clear hR7 k7 k5 n5 q5 g1 n7 q7 n8 q8 k8 hR8 x0 x2 zf hne k7'
    subst hw8
    go_wp2_with fail
    refine bodyPost_ret (v := .agg #[str s, str cn, .int .i64 t.at_]) (by simp [results, Tryz.results137, go_sem, y0, y1, y2]) rfl ?_
    rw [unhide HPO]
    exact ⟨_, rfl, rfl, unhide HF _ _ _⟩
end Go.Proofs.YtdjehbdpcdikkaaGreatDoor
