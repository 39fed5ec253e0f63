/- syn: the generic list, at Ex. syn: what stands between two signs, at Ex. A region that leaves its order open and holds calls and a write: one order. -/
import Derived.Test.YtdjehbdpcdikkaaGreatDoorMt10
import Derived.Sort.QuietIn
import Derived.StillTail
import Derived.StillTailTactics
namespace Go.Proofs.YtdjehbdpcdikkaaGreatDoor
open Go.RowKit Go.Maps

theorem infoE : ∃ i0 : TypeInfo, Tryz.prog.info? 90 = some i0 ∧ i0.zero = some (.agg #[.int .i64 0, .int .i64 0, .string ⟨#[]⟩, .slice none 0 0, .int .i64 0]) ∧ i0.size = 5 ∧ i0.bytes = 64 := by
 have h : (Tryz.prog.info? 90).map (fun i => (i.zero, i.size, i.bytes)) = some (some (.agg #[.int .i64 0, .int .i64 0, .string ⟨#[]⟩, .slice none 0 0, .int .i64 0]), 5, 64) := by kernel_rfl
 obtain ⟨i0, hi, hi3⟩ := Option.map_eq_some_iff.1 h
 simp only [Prod.mk.injEq] at hi3
 exact ⟨i0, hi, hi3⟩
/-- What is asked of a part. -/
def PartE (p : PS Ex) (rb e dp : Nat) (part : Pr Ex) : Prop := ∀ (w : World) (l : List Tok) (it : Nat), Rd rb e w l it dp → Calls Tryz.prog 185 #[.pointer (some ⟨rb, 0, none⟩)] w fun en w' => Ans rb e dp w (fun w2 v x => ∃ c0 c1 c2 c3 c4, v = .agg #[c0, c1, c2, c3, c4] ∧ (∀ c ∈ ([c0, c1, c2, c3, c4] : List Value), c.oneCell' = true) ∧ p (fun b => w.heap.size ≤ b) w2 [c0, c1, c2, c3, c4] x) (part l it) en w'

set_option maxRecDepth 100000 in
set_option maxHeartbeats 4000000 in
theorem listE_any (p : PS Ex) (hp : PSok p) {rb e dp : Nat} {part : Pr Ex} (hpart : PartE p rb e dp part) (hshr : Shr part) {w : World} {l : List Tok} {it : Nat} (h : Rd rb e w l it dp) (sep : Txt) (hsep : sep ≠ []) (most : Nat) :
  Calls Tryz.prog 201 #[.pointer (some ⟨rb, 0, none⟩), str sep, .int .i64 (most : Int), .func (.func 185) #[.pointer (some ⟨rb, 0, none⟩)] #[]] w fun en w' => Ans rb e dp w (fun w2 v xs => LsAt p 5 (fun b => w.heap.size ≤ b) w2 v xs) (listP e sep most part l it) en w' := by
 obtain ⟨r0, hr0⟩ : ∃ r0, r0 = listP e sep most part l it := ⟨_, rfl⟩
 have hst : LI p 5 90 rb e dp sep most part r0 w (.slice none 0 0) w [] l it (l.length + 1) := ⟨Kp.refl rb w, h, ⟨[], World.ownsRow_nil _ _ _ _, ⟨rfl, fun j x cs hx => by simp at hx⟩⟩, hr0, Nat.le_refl _, by have := h.len; simpa using this⟩
 rw [← hr0]
 obtain ⟨PO, hPO⟩ : ∃ PO : Ending → World → Prop, PO = fun en w' => Ans rb e dp w (fun w2 v xs => LsAt p 5 (fun b => w.heap.size ≤ b) w2 v xs) r0 en w' := ⟨_, rfl⟩
 rw [← hPO]
 have HPO := hide hPO
 have HST := hide hst
 have HP := hide (And.intro hpart (And.intro hshr hp))
 have hrb := h.lt
 clear hst hr0 hPO hpart hshr h hp
 obtain ⟨i0, hi, hz, hsz, hby⟩ := infoE
 have HIN := hide (And.intro hi (And.intro hz (And.intro hsz hby)))
 have ht : Tryz.prog.underlying 77 = some (.slice 90) := by kernel_rfl
 have HTY := hide ht
 clear hi hz hsz hby ht
 go_enter Tryz.func201, Tryz.ntmps201
 go_wp2_with fail
 go_loopw [9] (fun sl wr => ∃ acc l' it' f sa sc, sl = .slice sa (List.length acc) sc ∧ LI p 5 90 rb e dp sep most part r0 w sl wr acc l' it' f) (fun _ wr => left rb wr)
 case atStart => exact ⟨[], l, it, _, none, 0, rfl, unhide HST⟩
 case round =>
  obtain ⟨acc, l', it', f, sa, sc, rfl, hL⟩ := hrel
  clear HST
  obtain ⟨f', rfl⟩ : ∃ f', f = f' + 1 := ⟨f - 1, by have := hL.fuel; omega⟩
  by_cases hm : acc.length = most
  ·
   have hr := refuse_any hL.rd 3
   have hE : r0 = .bad 3 (ahd e 0 l').at_ l' := by
    rw [hL.eq]
    unfold listL
    rw [if_pos hm]; rfl
   have HE := hide (And.intro hE hL.kp)
   have hm2 : ((acc.length : Int) == (most : Int)) = true := by rw [hm]; simp
   clear hL hE hm
   generalize (ahd e 0 l').at_ = at0 at hr HE
   go_wp2_with fail
   refine hr.mono ?_
   clear hr
   rintro en w3 ⟨rfl, b3⟩
   have H3 := hide ((unhide HE).2.trans (Kp.of_below b3))
   clear b3
   go_wp2_with fail
   refine ⟨rfl, ?_⟩
   rw [unhide HPO, (unhide HE).1]
   exact ⟨rfl, unhide H3⟩
  ·
   have hm2 : ((acc.length : Int) == (most : Int)) = false := by simp; omega
   obtain ⟨hpart, hshr, hp⟩ := unhide HP
   have hc := hpart wr l' it' hL.rd
   have hE : r0 = (part l' it').bind fun x l i => if sgn e l = sep then listL e sep most part f' (acc ++ [x]) (l.drop 1) i else .ok (acc ++ [x]) l i := by
    rw [hL.eq]
    conv => lhs; unfold listL
    rw [if_neg hm]
   cases hq : part l' it' with
   | bad why at0 l2 =>
    rw [hq] at hc hE
    have HE := hide (And.intro hE hL.kp)
    clear hL hE hm hpart hshr hp hq
    go_wp2_with fail
    refine hc.mono ?_
    clear hc
    rintro en w3 ⟨rfl, k3⟩
    have H3 := hide ((unhide HE).2.trans k3)
    clear k3
    go_wp2_with fail
    refine ⟨rfl, ?_⟩
    rw [unhide HPO, (unhide HE).1]
    exact ⟨rfl, unhide H3⟩
   | ok x l2 i2 =>
    have hle := hshr _ _ _ _ _ hq
    rw [hq] at hc hE
    have HE := hide (And.intro hL hE)
    clear hL hE hm hpart hshr hp hq
    go_wp2_with fail
    refine hc.mono ?_
    clear hc
    rintro en w2 ⟨_, rfl, ⟨c0, c1, c2, c3, c4, rfl, h1, hx⟩, hR2, k2⟩
    obtain ⟨hL, hE⟩ := unhide HE
    obtain ⟨hi, hz, hsz, hby⟩ := unhide HIN
    obtain ⟨r, w8, hrun, kp8, rd8, ⟨ra, rc, er⟩, hown8⟩ := hL.more (unhide HP).2.2 (unhide HTY) hi hz hsz hby rfl (by decide) (by decide) (cs := [c0, c1, c2, c3, c4]) rfl h1 hx hR2 k2 hrb
    subst er
    have HRUN := hide hrun
    have hsk := skip_any rd8 sep hsep
    have hfu := hL.fuel
    have hfw := hL.few
    have hlf := left_rd hL.rd
    have H8 := hide (And.intro kp8 (And.intro hown8 hE))
    clear hL hE hi hz hsz hby h1 hx hR2 k2 hrun kp8 rd8 hown8 HE
    go_wp2_with (at_builtin; refine wpList_append_run _ rfl _ _ 77 rfl _ _ rfl rfl _ _ (unhide HRUN) ?_; clear HRUN)
    refine hsk.mono ?_
    clear hsk
    rintro en w9 ⟨rfl, hR9, k9⟩
    obtain ⟨kp8, ⟨css, ho8, ha8⟩, hE⟩ := unhide H8
    have own9 : w9.ownsRow w.heap.size 90 5 (.slice ra (acc.length + 1) rc) (acc ++ [x]).length css.flatten := by
     refine ⟨ho8.1, ?_⟩
     rcases ho8.2 with q | ⟨g, cap, cur, e1, e2, e3, e4⟩
     · exact .inl q
     · exact .inr ⟨g, cap, cur, e1, e2, k9.keep e3 (by omega), e4⟩
    have all9 := ha8.same (unhide HP).2.2 k9.size (fun b hs hb => k9.block b hb (by omega))
    have kp9 := kp8.trans k9
    clear kp8 ho8 ha8 k9 H8
    by_cases hS : sgn e l2 = sep
    ·
     rw [if_pos hS] at hR9
     have hS2 : decide (sgn e l2 = sep) = true := decide_eq_true hS
     obtain ⟨t2, l3, e2, hq2⟩ := sgn_cons hS hsep
     clear hq2
     subst e2
     have hN : LI p 5 90 rb e dp sep most part r0 w (.slice ra (acc.length + 1) rc) w9 (acc ++ [x]) l3 i2 f' := ⟨kp9, hR9, ⟨css, own9, all9⟩, by rw [hE]; show (if sgn e (t2 :: l3) = sep then _ else _) = _; rw [if_pos hS]; rfl, by simp at hle; omega, by simp at hle ⊢; omega⟩
     have hl9 := left_rd hR9
     have HN := hide hN
     rw [hS2]
     have HL9 := hide (And.intro hl9 (And.intro hlf hle))
     clear hN hR9 own9 all9 kp9 hE hS hS2 hl9 hlf hle
     go_wp2_with fail
     go_roundw
     case rel => exact ⟨_, _, _, _, ra, rc, by simp, unhide HN⟩
     case measure =>
      obtain ⟨q1, q2, q3⟩ := unhide HL9
      rw [q1, q2]
      simp at q3 ⊢
      omega
    ·
     rw [if_neg hS] at hR9
     have hS2 : decide (sgn e l2 = sep) = false := decide_eq_false hS
     have hF : r0 = .ok (acc ++ [x]) l2 i2 := by rw [hE]; show (if sgn e l2 = sep then _ else _) = _; rw [if_neg hS]
     have HF : Hid (r0 = .ok (acc ++ [x]) l2 i2 ∧ LsAt p 5 (fun b => w.heap.size ≤ b) w9 (.slice ra (acc.length + 1) rc) (acc ++ [x]) ∧ Rd rb e w9 l2 i2 dp ∧ Kp rb w w9) := ⟨hF, LsAt.of own9 (all9.mono (unhide HP).2.2 (fun b _ hs => hs.1)), hR9, kp9⟩
     rw [hS2]
     clear hF hR9 own9 all9 kp9 hE hS hS2 hlf hle
     go_wp2_with fail
     rw [unhide HPO, (unhide HF).1]
     exact ⟨_, rfl, (unhide HF).2⟩
end Go.Proofs.YtdjehbdpcdikkaaGreatDoor

namespace Go.Proofs.YtdjehbdpcdikkaaGreatDoor
open Go.RowKit Go.Maps

set_option maxRecDepth 100000 in
set_option maxHeartbeats 4000000 in
theorem enclE_any (p : PS Ex) (hp : PSok p) {rb e dp : Nat} {part : Pr Ex} (hpart : PartE p rb e dp part) (hshr : Shr part) {w : World} {l : List Tok} {it : Nat} (h : Rd rb e w l it dp) (op cl : Txt) (hop : op ≠ []) (hcl : cl ≠ []) :
  Calls Tryz.prog 184 #[.pointer (some ⟨rb, 0, none⟩), str op, str cl, .func (.func 185) #[.pointer (some ⟨rb, 0, none⟩)] #[]] w fun en w' => Ans rb e dp w (fun w2 v xs => LsAt p 5 (fun b => w.heap.size ≤ b) w2 v xs) (encl e op cl part l it) en w' := by
 have hw := want_any h op hop
 obtain ⟨PO, hPO⟩ : ∃ PO : Ending → World → Prop, PO = fun en w' => Ans rb e dp w (fun w2 v xs => LsAt p 5 (fun b => w.heap.size ≤ b) w2 v xs) (encl e op cl part l it) en w' := ⟨_, rfl⟩
 rw [← hPO]
 have hrb := h.lt
 have HP := hide (And.intro hpart (And.intro hshr hp))
 clear h hpart hshr hp
 unfold encl at hPO
 cases hq : want e op l it with
 | bad why at0 l2 =>
  rw [hq] at hw hPO
  have HPO := hide hPO
  clear hPO hq
  go_enter Tryz.func184, Tryz.ntmps184
  go_wp2_with fail
  refine hw.mono ?_
  clear hw
  rintro en w2 ⟨rfl, k2⟩
  have H2 := hide k2
  clear k2
  go_wp2_with fail
  refine ⟨rfl, ?_⟩
  rw [unhide HPO]
  exact ⟨rfl, unhide H2⟩
 | ok u l2 i2 =>
  rw [hq] at hw hPO
  have HPO := hide hPO
  clear hPO hq
  go_enter Tryz.func184, Tryz.ntmps184
  go_wp2_with fail
  refine hw.mono ?_
  clear hw
  rintro en w2 ⟨_, rfl, rfl, hR2, k2⟩
  have hsk := skip_any hR2 cl hcl
  have K2 := hide k2
  clear hR2 k2
  by_cases hS : sgn e l2 = cl
  ·
   rw [if_pos hS, decide_eq_true hS] at hsk
   have HP2 : Hid (PO = fun en w' => Ans rb e dp w (fun w2 v xs => LsAt p 5 (fun b => w.heap.size ≤ b) w2 v xs) (.ok [] (l2.drop 1) i2) en w') := by
    have := unhide HPO
    simp only [Rs.bind] at this
    rw [if_pos hS] at this
    exact this
   clear hS HPO
   go_wp2_with fail
   refine hsk.mono ?_
   clear hsk
   rintro en w3 ⟨rfl, hR3, k3⟩
   have H3 := hide (And.intro hR3 ((unhide K2).trans k3))
   clear hR3 k3
   go_wp2_with fail
   rw [unhide HP2]
   exact ⟨_, rfl, LsAt.nil _ _, unhide H3⟩
  ·
   rw [if_neg hS, decide_eq_false hS] at hsk
   have HP2 : Hid (PO = fun en w' => Ans rb e dp w (fun w2 v xs => LsAt p 5 (fun b => w.heap.size ≤ b) w2 v xs) ((listP e [44] 8 part l2 i2).bind fun xs l i => (want e cl l i).map fun _ => xs) en w') := by
    have := unhide HPO
    simp only [Rs.bind] at this
    rw [if_neg hS] at this
    exact this
   clear hS HPO
   go_wp2_with fail
   refine hsk.mono ?_
   clear hsk
   rintro en w3 ⟨rfl, hR3, k3⟩
   have hls := listE_any p (unhide HP).2.2 (unhide HP).1 (unhide HP).2.1 hR3 [44] (by simp) 8
   have K3 := hide ((unhide K2).trans k3)
   clear hR3 k3
   cases hq : listP e [44] 8 part l2 i2 with
   | bad why at0 l4 =>
    rw [hq] at hls
    have HP3 : Hid (PO = fun en w' => en = .panicked [{ v := stopV why at0, recovered := false }] ∧ Kp rb w w') := by
     have := unhide HP2
     rw [hq] at this
     exact this
    clear hq HP2
    go_wp2_with fail
    refine hls.mono ?_
    clear hls
    rintro en w4 ⟨rfl, k4⟩
    have H4 := hide ((unhide K3).trans k4)
    clear k4
    go_wp2_with fail
    refine ⟨rfl, ?_⟩
    rw [unhide HP3]
    exact ⟨rfl, unhide H4⟩
   | ok xs l4 i4 =>
    rw [hq] at hls
    have HP3 : Hid (PO = fun en w' => Ans rb e dp w (fun w2 v xs => LsAt p 5 (fun b => w.heap.size ≤ b) w2 v xs) ((want e cl l4 i4).map fun _ => xs) en w') := by
     have := unhide HP2
     rw [hq] at this
     exact this
    clear hq HP2
    go_wp2_with fail
    refine hls.mono ?_
    clear hls
    rintro en w4 ⟨lv, rfl, hLs, hR4, k4⟩
    obtain ⟨la, lc, lcss, elv, _⟩ := id hLs
    subst elv
    have hwt := want_any hR4 cl hcl
    have K4 := hide (And.intro ((unhide K3).trans k4) (And.intro (unhide K3).size hLs))
    clear hR4 k4 hLs
    cases hq2 : want e cl l4 i4 with
    | bad why at0 l5 =>
     rw [hq2] at hwt
     have HP4 : Hid (PO = fun en w' => en = .panicked [{ v := stopV why at0, recovered := false }] ∧ Kp rb w w') := by
      have := unhide HP3
      rw [hq2] at this
      exact this
     clear hq2 HP3
     go_wp2_with fail
     refine hwt.mono ?_
     clear hwt
     rintro en w5 ⟨rfl, k5⟩
     have H5 := hide ((unhide K4).1.trans k5)
     clear k5
     go_wp2_with fail
     refine ⟨rfl, ?_⟩
     rw [unhide HP4]
     exact ⟨rfl, unhide H5⟩
    | ok u5 l5 i5 =>
     rw [hq2] at hwt
     have HP4 : Hid (PO = fun en w' => ∃ v, en = .returned v ∧ LsAt p 5 (fun b => w.heap.size ≤ b) w' v xs ∧ Rd rb e w' l5 i5 dp ∧ Kp rb w w') := by
      have := unhide HP3
      rw [hq2] at this
      exact this
     clear hq2 HP3
     go_wp2_with fail
     refine hwt.mono ?_
     clear hwt
     rintro en w5 ⟨_, rfl, rfl, hR5, k5⟩
     have hL5 := ((unhide K4).2.2.mono (unhide HP).2.2 (S' := fun b => w.heap.size ≤ b) (fun b _ hs => Nat.le_trans (unhide K4).2.1 hs)).same (unhide HP).2.2 k5.size (fun b hs hb => k5.block b hb (by omega))
     have H5 := hide (And.intro hL5 (And.intro hR5 ((unhide K4).1.trans k5)))
     clear hL5 hR5 k5
     go_wp2_with fail
     rw [unhide HP4]
     exact ⟨_, rfl, unhide H5⟩
end Go.Proofs.YtdjehbdpcdikkaaGreatDoor

namespace Go.Proofs.YtdjehbdpcdikkaaGreatDoor
open Go.RowKit

section
variable {P : Program} {ops : Array Oper} {md : Region.Mode} {Q : Exit → Act → World → Prop} {C : World → Prop}

/-- Every order, with C of each world on the way. -/
def wpAnyC (P : Program) (md : Region.Mode) (ops : Array Oper) (C : World → Prop) (Q : Exit → Act → World → Prop) : Nat → Array Bool → Act → World → Prop
 | 0, listed, a, w => C w ∧ Region.ready md ops listed = [] ∧ Q .normal a w
 | fuel + 1, listed, a, w => C w ∧ (Region.ready md ops listed = [] → Q .normal a w) ∧ ∀ i ∈ Region.ready md ops listed, wpOp P ops Q i (wpAnyC P md ops C Q fuel (listed.setIfInBounds i true)) a w
theorem wpAnyC.c {f : Nat} {listed : Array Bool} {a : Act} {w : World} (h : wpAnyC P md ops C Q f listed a w) : C w := by
 cases f with
 | zero => exact h.1
 | succ f => exact h.1
theorem wpAny_of_c : ∀ (f : Nat) (listed : Array Bool) (a : Act) (w : World), wpAnyC P md ops C Q f listed a w → wpAny P md ops Q f listed a w
 | 0, _, _, _, h => h.2
 | f + 1, _, _, _, h => ⟨h.2.1, fun i hi => wpOp_mono (fun a w => wpAny_of_c f _ a w) (h.2.2 i hi)⟩

/-- Whatever else runs ahead of it, it yields the same. -/
theorem wpOp_put {j : Nat} {oi oj : Oper} {v : Value} (hj : ops[j]? = some oj) (hap : oi.apart ops oj = true) (hsi : ∀ cs b, oi.op ≠ .select cs b) (hsj : ∀ cs b, oj.op ≠ .select cs b) (hL : ¬ LetsOut Q) (hQ : ∀ c (a : Act) d v w, Q (.panic c) (a.put d v) w → Q (.panic c) a w)
  {K : Act → World → Prop} {a : Act} {w : World} (hy : ∀ w, C w → YieldsAt P ops w oi v a) (h : wpOp P ops Q j K (a.put oi.dst v) w) :
  wpOp P ops Q j (fun a' w' => (∀ w, C w → YieldsAt P ops w oi v a') ∧ K (a'.put oi.dst v) w') a w := by
 obtain ⟨h1, h2, h3⟩ := Oper.apart_spec hap
 have keep : ∀ u, ∀ w, C w → YieldsAt P ops w oi v (a.put oj.dst u) := fun u w hw => (hy w hw).of_same (execOp_put oi hsi a oj.dst u h3) (wanted_put oi a oj.dst u h3)
 unfold wpOp at *
 simp only [hj] at *
 rw [wanted_put oj a oi.dst v h1] at h
 split
 ·
  rename_i hw
  simp only [hw, if_true] at h
  refine .inl ?_
  have h := h.resolve_right fun g => hL g.2
  unfold Oper.wp at *
  rw [execOp_put oj hsj a oi.dst v h1] at h
  generalize (execOp a.eval oj).run P w = r at *
  cases r with
  | ok n w' =>
   cases n with
   | value u => exact ⟨keep u, by rw [← Act.put_comm a v u h2]; exact h⟩
   | skip => exact ⟨keep _, by rw [← Act.put_comm a v undef h2]; exact h⟩
   | defer d => exact ⟨fun w hw => (hy w hw).of_same (execOp_put oi hsi { a with defers := d :: a.defers } oj.dst undef h3) (wanted_put oi { a with defers := d :: a.defers } oj.dst undef h3), by
    rw [← Act.put_comm { a with defers := d :: a.defers } v undef h2, show ({ a with defers := d :: a.defers } : Act).put oi.dst v = { a.put oi.dst v with defers := d :: (a.put oi.dst v).defers } by cases oi.dst <;> rfl]
    exact h⟩
   | enter f args =>
    refine Calls.mono (P := P) h ?_
    intro e w2 hh
    cases e with
    | returned u => exact ⟨keep u, by rw [← Act.put_comm a v u h2]; exact hh⟩
    | panicked c => exact hQ _ _ _ _ _ hh
    | outgrown => first | exact hh | exact (hL hh).elim | exact hh.elim
   | row r args =>
    intro c cs
    obtain ⟨u, w2, r2, s2⟩ := h c cs
    exact ⟨u, w2, ⟨keep u, by rw [← Act.put_comm a v u h2]; exact r2⟩, s2⟩
   | _ => exact h.elim
  | halt x w' =>
   cases x with
   | panic u => exact hQ _ _ _ _ _ h
   | _ => exact h.elim
 ·
  rename_i hw
  simp only [hw] at h
  exact ⟨keep _, by rw [← Act.put_comm a v undef h2]; exact h⟩

/-- What yields the same in every world may be run first. -/
theorem wpAnyC_first {i : Nat} {oi : Oper} {v : Value} (hi : ops[i]? = some oi) (hsel : ∀ (j : Nat) (o : Oper) cs b, ops[j]? = some o → o.op ≠ .select cs b) (hL : ¬ LetsOut Q) (hQ : ∀ c (a : Act) d v w, Q (.panic c) (a.put d v) w → Q (.panic c) a w) :
  ∀ (f : Nat) (listed : Array Bool) (a : Act) (w : World),
   (∀ j oj, ops[j]? = some oj → j ≠ i → listed.getD j true = false → (∀ e ∈ oj.after, Region.binds md e = true → e.on ≠ i) → oi.apart ops oj = true) →
   i ∈ Region.ready md ops listed → (∀ w, C w → YieldsAt P ops w oi v a) →
   wpAnyC P md ops C Q f (listed.setIfInBounds i true) (a.put oi.dst v) w → wpAnyC P md ops C Q (f + 1) listed a w := by
 intro f
 induction f with
 | zero =>
  intro listed a w _ hr hy H
  refine ⟨H.c, fun h => (by rw [h] at hr; cases hr), fun j hj => ?_⟩
  by_cases hji : j = i
  · subst hji; exact wpOp_of_stOp (K := fun a' => a' = a.put oi.dst v) (fun a' e => e ▸ H) ((hy w H.c).stOp hi rfl)
  ·
   have := ready_mono hj hji
   rw [H.2.1] at this
   cases this
 | succ f ih =>
  intro listed a w hfree hr hy H
  have hun := (mem_ready.1 hr).1
  refine ⟨H.c, fun h => (by rw [h] at hr; cases hr), fun j hj => ?_⟩
  by_cases hji : j = i
  · subst hji; exact wpOp_of_stOp (K := fun a' => a' = a.put oi.dst v) (fun a' e => e ▸ H) ((hy w H.c).stOp hi rfl)
  ·
   have h1 := H.2.2 j (ready_mono hj hji)
   obtain ⟨hjun, oj, hoj, hall⟩ := mem_ready.1 hj
   have hnot : ∀ e ∈ oj.after, Region.binds md e = true → e.on ≠ i := fun e he hb heq => by
    have h1 := hall e he hb
    rw [heq, getD_both hun] at h1
    cases h1
   have h2 := wpOp_put hoj (hfree j oj hoj hji hjun hnot) (fun cs b => hsel i oi cs b hi) (fun cs b => hsel j oj cs b hoj) hL hQ hy h1
   have hfree' : ∀ k ok, ops[k]? = some ok → k ≠ i → (listed.setIfInBounds j true).getD k true = false →
     (∀ e ∈ ok.after, Region.binds md e = true → e.on ≠ i) → oi.apart ops ok = true := fun k ok hk hki hun hno => by
    refine hfree k ok hk hki ?_ hno
    by_cases hjk : j = k
    · subst hjk; exact hjun
    · rw [getD_set_ne true hjk] at hun; exact hun
   refine wpOp_mono (fun a' w' h3 => ih (listed.setIfInBounds j true) a' w' hfree' (ready_mono hr (Ne.symm hji)) h3.1 ?_) h2
   rw [Array.setIfInBounds_comm _ _ hji]
   exact h3.2
/-- An order: what is still (true) as soon as it is ready, what is not (false) where nothing else is ready. -/
def orderB (md : Region.Mode) (ops : Array Oper) : List (Nat × Bool) → Array Bool → Bool
 | [], listed => (Region.ready md ops listed).isEmpty
 | (k, true) :: r, listed => (Region.ready md ops listed).contains k && Region.free md ops listed k && orderB md ops r (listed.setIfInBounds k true)
 | (k, false) :: r, listed => decide (Region.ready md ops listed = [k]) && orderB md ops r (listed.setIfInBounds k true)
def wpMix (P : Program) (ops : Array Oper) (C : World → Prop) (Q : Exit → Act → World → Prop) : List (Nat × Bool) → Act → World → Prop
 | [], a, w => C w ∧ Q .normal a w
 | (k, true) :: r, a, w => ∃ o v, ops[k]? = some o ∧ (∀ w, C w → YieldsAt P ops w o v a) ∧ wpMix P ops C Q r (a.put o.dst v) w
 | (k, false) :: r, a, w => C w ∧ wpOp P ops Q k (fun a' w' => wpMix P ops C Q r a' w') a w
theorem wpAnyC_mix (hsel : Region.noSelect ops = true) (hL : ¬ LetsOut Q) (hQ : ∀ c (a : Act) d v w, Q (.panic c) (a.put d v) w → Q (.panic c) a w) : ∀ (l : List (Nat × Bool)) (listed : Array Bool) (a : Act) (w : World), orderB md ops l listed = true → wpMix P ops C Q l a w → wpAnyC P md ops C Q l.length listed a w
 | [], listed, a, w, hB, h => ⟨h.1, by simpa [orderB] using hB, h.2⟩
 | (k, true) :: r, listed, a, w, hB, h => by
  simp only [orderB, Bool.and_eq_true] at hB
  obtain ⟨⟨hr, hf⟩, hB'⟩ := hB
  obtain ⟨o, v, ho, hy, h'⟩ := h
  exact wpAnyC_first ho (Region.noSelect_spec hsel) hL hQ r.length listed a w (Region.free_spec ho hf) (by simpa using hr) hy (wpAnyC_mix hsel hL hQ r _ _ _ hB' h')
 | (k, false) :: r, listed, a, w, hB, h => by
  simp only [orderB, Bool.and_eq_true, decide_eq_true_eq] at hB
  refine ⟨h.1, fun e => (by rw [hB.1] at e; cases e), fun i hi => ?_⟩
  rw [hB.1] at hi
  have e : i = k := by simpa using hi
  subst e
  exact wpOp_mono (fun a' w' h' => wpAnyC_mix hsel hL hQ r _ a' w' hB.2 h') h.2
/-- One order serves all. -/
theorem region_mix {id : Nat} {a : Act} {w : World} (l : List (Nat × Bool)) (hm : P.follows .mixedOrders = true) (hsel : Region.noSelect ops = true) (hL : ¬ LetsOut Q) (hQ : ∀ c (a : Act) d v w, Q (.panic c) (a.put d v) w → Q (.panic c) a w) (hlen : l.length = ops.size) (hB : orderB .any ops l (Array.replicate ops.size false) = true)
  (h : wpMix P ops C Q l a { w with drawn := w.drawn + 1 }) : (Code.region id ops true).wp P Q a w := by
 refine wp_region_any hm ?_
 have := wpAny_of_c _ _ _ _ (wpAnyC_mix (md := .any) hsel hL hQ l _ a _ hB h)
 rw [hlen] at this
 exact this
end

section
variable {P : Program} {ops : Array Oper} {Q : Exit → Act → World → Prop} {C : World → Prop} {r : List (Nat × Bool)} {a : Act} {w : World} {k : Nat} {o : Oper}
theorem wpMix_take {v : Value} (ho : ops[k]? = some o) (hw : Region.wanted o (yielded ops a.tmps) = true) (hy : ∀ w', C w' → (execOp a.eval o).run P w' = .ok (.value v) w')
  (h : wpMix P ops C Q r (a.put o.dst v) w) : wpMix P ops C Q ((k, true) :: r) a w := ⟨o, v, ho, fun w' hc => .inl ⟨hw, .inl (hy w' hc)⟩, h⟩
theorem wpMix_pass (ho : ops[k]? = some o) (hw : Region.wanted o (yielded ops a.tmps) = false) (h : wpMix P ops C Q r (a.put o.dst undef) w) : wpMix P ops C Q ((k, true) :: r) a w := ⟨o, undef, ho, fun _ _ => .inr ⟨hw, rfl⟩, h⟩
theorem wpMix_force (ho : ops[k]? = some o) (hC : C w) (h : ∀ K' : Act → World → Prop, (∀ a w, wpMix P ops C Q r a w → K' a w) → if Region.wanted o (yielded ops a.tmps) = true then Oper.wp P o a w K' Q else K' (a.put o.dst undef) w) : wpMix P ops C Q ((k, false) :: r) a w := ⟨hC, wpOp_step ho h⟩
theorem wpMix_nil (hC : C w) (h : Q .normal a w) : wpMix P ops C Q [] a w := ⟨hC, h⟩
/-- What stands behind the region alone. -/
def onlyN (PP : Act → World → Prop) : Exit → Act → World → Prop
 | .normal, a, w => PP a w
 | _, _, _ => False
theorem region_mixN {id : Nat} {md : List (Nat × Bool)} (C : World → Prop) (hm : P.follows .mixedOrders = true) (hsel : Region.noSelect ops = true) (hlen : md.length = ops.size) (hB : orderB .any ops md (Array.replicate ops.size false) = true)
  (h : ∀ PP : Act → World → Prop, (∀ a' w', Q .normal a' w' → PP a' w') → wpMix P ops C (onlyN PP) md a w.drew) : (Code.region id ops true).wp P Q a w := by
 refine wp_mono (region_mix (C := C) md hm hsel ?_ ?_ hlen hB (h (Q .normal) (fun _ _ h => h))) ?_
 · rintro ⟨_, _, h⟩; exact h
 · exact fun _ _ _ _ _ h => h
 ·
  intro e a w h
  cases e
  case normal => exact h
  all_goals exact h.elim
/-- The frame, written out. -/
theorem wpMix_at {l : List (Nat × Bool)} {b : Act} (e : a = b) (h : wpMix P ops C Q l b w) : wpMix P ops C Q l a w := e ▸ h
end

section
variable {P : Program} {ops : Array Oper} {md : Region.Mode} {Q : Exit → Act → World → Prop} {C : Bool → World → Prop} {m : Nat}

/-- Every order, with C of each world on the way; C is told whether m is done. -/
def wpAnyF (P : Program) (md : Region.Mode) (ops : Array Oper) (m : Nat) (C : Bool → World → Prop) (Q : Exit → Act → World → Prop) : Nat → Array Bool → Act → World → Prop
 | 0, listed, a, w => C (listed.getD m true) w ∧ Region.ready md ops listed = [] ∧ Q .normal a w
 | fuel + 1, listed, a, w => C (listed.getD m true) w ∧ (Region.ready md ops listed = [] → Q .normal a w) ∧ ∀ i ∈ Region.ready md ops listed, wpOp P ops Q i (wpAnyF P md ops m C Q fuel (listed.setIfInBounds i true)) a w
theorem wpAnyF.c {f : Nat} {listed : Array Bool} {a : Act} {w : World} (h : wpAnyF P md ops m C Q f listed a w) : C (listed.getD m true) w := by
 cases f with
 | zero => exact h.1
 | succ f => exact h.1
theorem wpAny_of_f : ∀ (f : Nat) (listed : Array Bool) (a : Act) (w : World), wpAnyF P md ops m C Q f listed a w → wpAny P md ops Q f listed a w
 | 0, _, _, _, h => h.2
 | f + 1, _, _, _, h => ⟨h.2.1, fun i hi => wpOp_mono (fun a w => wpAny_of_f f _ a w) (h.2.2 i hi)⟩

/-- What yields the same in every world of D may be run first. -/
theorem wpAnyF_first {D : World → Prop} {G : Array Bool → Prop} {i : Nat} {oi : Oper} {v : Value} (hi : ops[i]? = some oi) (him : m ≠ i) (hsel : ∀ (j : Nat) (o : Oper) cs b, ops[j]? = some o → o.op ≠ .select cs b) (hL : ¬ LetsOut Q) (hQ : ∀ c (a : Act) d v w, Q (.panic c) (a.put d v) w → Q (.panic c) a w)
  (hCD : ∀ listed w, G listed → C (listed.getD m true) w → D w) (hG : ∀ listed j, G listed → listed.getD i true = false → j ≠ i → j ∈ Region.ready md ops listed → G (listed.setIfInBounds j true)) :
  ∀ (f : Nat) (listed : Array Bool) (a : Act) (w : World), G listed →
   (∀ j oj, ops[j]? = some oj → j ≠ i → listed.getD j true = false → (∀ e ∈ oj.after, Region.binds md e = true → e.on ≠ i) → oi.apart ops oj = true) →
   i ∈ Region.ready md ops listed → (∀ w, D w → YieldsAt P ops w oi v a) →
   wpAnyF P md ops m C Q f (listed.setIfInBounds i true) (a.put oi.dst v) w → wpAnyF P md ops m C Q (f + 1) listed a w := by
 have hflag : ∀ listed : Array Bool, (listed.setIfInBounds i true).getD m true = listed.getD m true := fun listed => getD_set_ne true (Ne.symm him)
 intro f
 induction f with
 | zero =>
  intro listed a w hg _ hr hy H
  have hc : C (listed.getD m true) w := hflag listed ▸ H.c
  refine ⟨hc, fun h => (by rw [h] at hr; cases hr), fun j hj => ?_⟩
  by_cases hji : j = i
  · subst hji; exact wpOp_of_stOp (K := fun a' => a' = a.put oi.dst v) (fun a' e => e ▸ H) ((hy w (hCD _ _ hg hc)).stOp hi rfl)
  ·
   have := ready_mono hj hji
   rw [H.2.1] at this
   cases this
 | succ f ih =>
  intro listed a w hg hfree hr hy H
  have hc : C (listed.getD m true) w := hflag listed ▸ H.c
  have hun := (mem_ready.1 hr).1
  refine ⟨hc, fun h => (by rw [h] at hr; cases hr), fun j hj => ?_⟩
  by_cases hji : j = i
  · subst hji; exact wpOp_of_stOp (K := fun a' => a' = a.put oi.dst v) (fun a' e => e ▸ H) ((hy w (hCD _ _ hg hc)).stOp hi rfl)
  ·
   have h1 := H.2.2 j (ready_mono hj hji)
   obtain ⟨hjun, oj, hoj, hall⟩ := mem_ready.1 hj
   have hnot : ∀ e ∈ oj.after, Region.binds md e = true → e.on ≠ i := fun e he hb heq => by
    have h1 := hall e he hb
    rw [heq, getD_both hun] at h1
    cases h1
   have h2 := wpOp_put (C := D) hoj (hfree j oj hoj hji hjun hnot) (fun cs b => hsel i oi cs b hi) (fun cs b => hsel j oj cs b hoj) hL hQ hy h1
   have hfree' : ∀ k ok, ops[k]? = some ok → k ≠ i → (listed.setIfInBounds j true).getD k true = false →
     (∀ e ∈ ok.after, Region.binds md e = true → e.on ≠ i) → oi.apart ops ok = true := fun k ok hk hki hun hno => by
    refine hfree k ok hk hki ?_ hno
    by_cases hjk : j = k
    · subst hjk; exact hjun
    · rw [getD_set_ne true hjk] at hun; exact hun
   refine wpOp_mono (fun a' w' h3 => ih (listed.setIfInBounds j true) a' w' (hG listed j hg hun hji hj) hfree' (ready_mono hr (Ne.symm hji)) h3.1 ?_) h2
   rw [Array.setIfInBounds_comm _ _ hji]
   exact h3.2

def depB (md : Region.Mode) (ops : Array Oper) (m k : Nat) : Bool := match ops[m]? with
 | some o => o.after.any fun e => Region.binds md e && e.on == k
 | none => false
/-- An order: 0 what is not still, where nothing else is ready; 1 what is still throughout; 2 what is still till m is done. -/
def orderF (md : Region.Mode) (ops : Array Oper) (m : Nat) : List (Nat × Nat) → Array Bool → Bool
 | [], listed => (Region.ready md ops listed).isEmpty && listed.getD m true
 | (k, 0) :: r, listed => decide (Region.ready md ops listed = [k]) && orderF md ops m r (listed.setIfInBounds k true)
 | (k, 1) :: r, listed => ((Region.ready md ops listed).contains k && Region.free md ops listed k && decide (m ≠ k)) && orderF md ops m r (listed.setIfInBounds k true)
 | (k, _) :: r, listed => ((Region.ready md ops listed).contains k && Region.free md ops listed k && decide (m ≠ k) && !(listed.getD m true) && depB md ops m k) && orderF md ops m r (listed.setIfInBounds k true)
def wpMixF (P : Program) (ops : Array Oper) (m : Nat) (C : Bool → World → Prop) (Q : Exit → Act → World → Prop) : Bool → List (Nat × Nat) → Act → World → Prop
 | _, [], a, w => C true w ∧ Q .normal a w
 | f, (k, 0) :: r, a, w => C f w ∧ wpOp P ops Q k (fun a' w' => wpMixF P ops m C Q (f || k == m) r a' w') a w
 | f, (k, 1) :: r, a, w => ∃ o v, ops[k]? = some o ∧ (∀ f w, C f w → YieldsAt P ops w o v a) ∧ wpMixF P ops m C Q f r (a.put o.dst v) w
 | f, (k, _) :: r, a, w => ∃ o v, ops[k]? = some o ∧ (∀ w, C false w → YieldsAt P ops w o v a) ∧ wpMixF P ops m C Q f r (a.put o.dst v) w
theorem flag_set {listed : Array Bool} {k : Nat} (hk : k < listed.size) : (listed.setIfInBounds k true).getD m true = (listed.getD m true || k == m) := by
 by_cases h : k = m
 ·
  subst h
  simp [hk]
 ·
  rw [getD_set_ne true h]
  simp [h]
theorem ready_lt {listed : Array Bool} {k : Nat} (h : k ∈ Region.ready md ops listed) : k < listed.size := by
 have := (mem_ready.1 h).1
 rcases Nat.lt_or_ge k listed.size with h' | h'
 · exact h'
 · simp [Array.getElem?_eq_none h'] at this
theorem wpAnyF_mix (hsel : Region.noSelect ops = true) (hL : ¬ LetsOut Q) (hQ : ∀ c (a : Act) d v w, Q (.panic c) (a.put d v) w → Q (.panic c) a w) : ∀ (l : List (Nat × Nat)) (f : Bool) (listed : Array Bool) (a : Act) (w : World), listed.getD m true = f → orderF md ops m l listed = true → wpMixF P ops m C Q f l a w → wpAnyF P md ops m C Q l.length listed a w
 | [], f, listed, a, w, hf, hB, h => by
  simp only [orderF, Bool.and_eq_true] at hB
  exact ⟨by rw [hB.2]; exact h.1, by simpa using hB.1, h.2⟩
 | (k, 0) :: r, f, listed, a, w, hf, hB, h => by
  simp only [orderF, Bool.and_eq_true, decide_eq_true_eq] at hB
  refine ⟨by rw [hf]; exact h.1, fun e => (by rw [hB.1] at e; cases e), fun i hi => ?_⟩
  have hi' := hi
  rw [hB.1] at hi
  have e : i = k := by simpa using hi
  subst e
  exact wpOp_mono (fun a' w' h' => wpAnyF_mix hsel hL hQ r _ _ a' w' (by rw [flag_set (ready_lt hi'), hf]) hB.2 h') h.2
 | (k, 1) :: r, f, listed, a, w, hf, hB, h => by
  simp only [orderF, Bool.and_eq_true, decide_eq_true_eq] at hB
  obtain ⟨⟨⟨hr, hfr⟩, hne⟩, hB'⟩ := hB
  obtain ⟨o, v, ho, hy, h'⟩ := h
  have hr' : k ∈ Region.ready md ops listed := by simpa using hr
  refine wpAnyF_first (D := fun w => ∃ f, C f w) (G := fun _ => True) ho hne (Region.noSelect_spec hsel) hL hQ (fun _ _ _ h => ⟨_, h⟩) (fun _ _ _ _ _ _ => trivial) r.length listed a w trivial (Region.free_spec ho hfr) hr' (fun w ⟨f, hc⟩ => hy f w hc) (wpAnyF_mix hsel hL hQ r f _ _ _ ?_ hB' h')
  rw [flag_set (ready_lt hr'), hf]
  simp [Ne.symm hne]
 | (k, n + 2) :: r, f, listed, a, w, hf, hB, h => by
  simp only [orderF, Bool.and_eq_true, decide_eq_true_eq, Bool.not_eq_true'] at hB
  obtain ⟨⟨⟨⟨⟨hr, hfr⟩, hne⟩, hun⟩, hdep⟩, hB'⟩ := hB
  obtain ⟨o, v, ho, hy, h'⟩ := h
  have hr' : k ∈ Region.ready md ops listed := by simpa using hr
  refine wpAnyF_first (D := C false) (G := fun l => l.getD m true = false) ho hne (Region.noSelect_spec hsel) hL hQ (fun l w hg h => hg ▸ h) (fun l j hg hk hjk hj => ?_) r.length listed a w hun (Region.free_spec ho hfr) hr' hy (wpAnyF_mix hsel hL hQ r f _ _ _ ?_ hB' h')
  ·
   have hjm : j ≠ m := fun e => by
    subst e
    obtain ⟨_, oj, hoj, hall⟩ := mem_ready.1 hj
    unfold depB at hdep
    rw [hoj] at hdep
    obtain ⟨e, he, hb⟩ := Array.any_eq_true'.1 hdep
    simp only [Bool.and_eq_true, beq_iff_eq] at hb
    have := hall e he hb.1
    rw [hb.2, getD_both hk] at this
    cases this
   rw [getD_set_ne true hjm]
   exact hg
  ·
   rw [flag_set (ready_lt hr'), hf]
   simp [Ne.symm hne]
theorem wpMixF_take {f : Bool} {k : Nat} {o : Oper} {v : Value} {r : List (Nat × Nat)} {a : Act} {w : World} (ho : ops[k]? = some o) (hw : Region.wanted o (yielded ops a.tmps) = true) (hy : ∀ f w', C f w' → (execOp a.eval o).run P w' = .ok (.value v) w')
  (h : wpMixF P ops m C Q f r (a.put o.dst v) w) : wpMixF P ops m C Q f ((k, 1) :: r) a w := ⟨o, v, ho, fun f w' hc => .inl ⟨hw, .inl (hy f w' hc)⟩, h⟩
theorem wpMixF_till {f : Bool} {k : Nat} {o : Oper} {v : Value} {r : List (Nat × Nat)} {a : Act} {w : World} (ho : ops[k]? = some o) (hw : Region.wanted o (yielded ops a.tmps) = true) (hy : ∀ w', C false w' → (execOp a.eval o).run P w' = .ok (.value v) w')
  (h : wpMixF P ops m C Q f r (a.put o.dst v) w) : wpMixF P ops m C Q f ((k, 2) :: r) a w := ⟨o, v, ho, fun w' hc => .inl ⟨hw, .inl (hy w' hc)⟩, h⟩
theorem wpMixF_force {f : Bool} {k : Nat} {o : Oper} {r : List (Nat × Nat)} {a : Act} {w : World} (ho : ops[k]? = some o) (hC : C f w) (h : ∀ K' : Act → World → Prop, (∀ a w, wpMixF P ops m C Q (f || k == m) r a w → K' a w) → if Region.wanted o (yielded ops a.tmps) = true then Oper.wp P o a w K' Q else K' (a.put o.dst undef) w) : wpMixF P ops m C Q f ((k, 0) :: r) a w := ⟨hC, wpOp_step ho h⟩
theorem wpMixF_nil {f : Bool} {a : Act} {w : World} (hC : C true w) (h : Q .normal a w) : wpMixF P ops m C Q f [] a w := ⟨hC, h⟩
end


/-- What stands behind the region, and what a panic leaves. -/
def onlyP (PP : Act → World → Prop) (PQ : List PanicEntry → Act → World → Prop) : Exit → Act → World → Prop
 | .normal, a, w => PP a w
 | .panic c, a, w => PQ c a w
 | _, _, _ => False
theorem region_mixP {P : Program} {Q : Exit → Act → World → Prop} {id m : Nat} {a : Act} {w : World} {ops : Array Oper} {ml : List (Nat × Nat)} (C : Bool → World → Prop) (hm : P.follows .mixedOrders = true) (hsel : Region.noSelect ops = true) (hlen : ml.length = ops.size) (hm2 : (Array.replicate ops.size false).getD m true = false) (hB : orderF .any ops m ml (Array.replicate ops.size false) = true)
  (hpan : ∀ c (a : Act) d v w, Q (.panic c) (a.put d v) w → Q (.panic c) a w)
  (h : ∀ (PP : Act → World → Prop) (PQ : List PanicEntry → Act → World → Prop), (∀ a' w', Q .normal a' w' → PP a' w') → (∀ c a' w', Q (.panic c) a' w' → PQ c a' w') → wpMixF P ops m C (onlyP PP PQ) false ml a w.drew) : (Code.region id ops true).wp P Q a w := by
 have hL : ¬ LetsOut (onlyP (Q .normal) (fun c => Q (.panic c))) := by rintro ⟨_, _, h⟩; exact h
 have h1 := wpAny_of_f _ _ _ _ (wpAnyF_mix (md := .any) hsel hL (fun c a d v w h => hpan c a d v w h) ml false _ a _ hm2 hB (h (Q .normal) (fun c => Q (.panic c)) (fun _ _ h => h) (fun _ _ _ h => h)))
 rw [hlen] at h1
 refine wp_mono (Q := onlyP (Q .normal) (fun c => Q (.panic c))) (wp_region_any hm h1) ?_
 intro e a w h
 cases e
 case normal => exact h
 case panic c => exact h
 all_goals exact h.elim
theorem region_mixG {P : Program} {Q : Exit → Act → World → Prop} {id m : Nat} {a : Act} {w : World} {ops : Array Oper} {ml : List (Nat × Nat)} (C : Bool → World → Prop) (hm : P.follows .mixedOrders = true) (hsel : Region.noSelect ops = true) (hlen : ml.length = ops.size) (hm2 : (Array.replicate ops.size false).getD m true = false) (hB : orderF .any ops m ml (Array.replicate ops.size false) = true)
  (h : ∀ PP : Act → World → Prop, (∀ a' w', Q .normal a' w' → PP a' w') → wpMixF P ops m C (onlyN PP) false ml a w.drew) : (Code.region id ops true).wp P Q a w := by
 have hL : ¬ LetsOut (onlyN (Q .normal)) := by rintro ⟨_, _, h⟩; exact h
 have hQ : ∀ c (a : Act) d v w, onlyN (Q .normal) (.panic c) (a.put d v) w → onlyN (Q .normal) (.panic c) a w := fun _ _ _ _ _ h => h
 have h1 := wpAny_of_f _ _ _ _ (wpAnyF_mix (md := .any) hsel hL hQ ml false _ a _ hm2 hB (h (Q .normal) (fun _ _ h => h)))
 rw [hlen] at h1
 refine wp_mono (Q := onlyN (Q .normal)) (wp_region_any hm h1) ?_
 intro e a w h
 cases e
 case normal => exact h
 all_goals exact h.elim
theorem append_drawn {P : Program} {ops : Array Oper} {o : Oper} {a : Act} {w : World} {K : Act → World → Prop} {Q : Exit → Act → World → Prop}
  (hg : o.guard = none) (s x : Operand) (t : TypeId) (hop : o.op = Op.call { callee := Callee.builtin Builtin.append, args := #[s, x], argTypes := #[t, t] })
  (v u : Value) (hs : a.eval s = v) (hx : a.eval x = u) {v' : Value} {w' : World} (hr : (Builtin.append_ #[t, t] o.type #[v, u]).run P w = .ok v' w') (hK : K (a.put o.dst v') w') :
  if Region.wanted o (yielded ops a.tmps) = true then Oper.wp P o a w K Q else K (a.put o.dst undef) w := by
 have hw : Region.wanted o (yielded ops a.tmps) = true := by simp [Region.wanted, hg]
 rw [if_pos hw]
 unfold Oper.wp
 simp [execOp, hop, resolve, invoke, builtin, hs, hx, hr, Result.andThen]
 exact hK
end Go.Proofs.YtdjehbdpcdikkaaGreatDoor
