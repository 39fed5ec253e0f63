/- The probe that stands in each statement answers true: the walk. -/
import Derived.Test.YtbfkcfhkccicoaaDoorAlive
namespace Go.Proofs.YtbfkcfhkccicoaaDoor
open Go.RowKit Go.Maps Go.WideMaps

theorem uses_not {p : SP} {W : World} {S : SS} {g : Nat} (h : Sto W p S) (hg : W.heap.size ≤ g) : ∀ k, (bV g).uses k → ¬ p.own k := fun k hk e => by
  have := b_uses g k hk
  have := (h.own_lt k e).2
  omega

open Go.BigFrame in
set_option maxRecDepth 100000 in
set_option maxHeartbeats 8000000 in
theorem alive_any (B : Nat) (w : World) (hB : B ≤ w.heap.size) (ht : Tbl B w) : Calls Tryd.prog 5 #[] w fun e w' => e = .returned (.bool true) ∧ Below w.heap.size w w' := by
  have HT := hide ht
  clear ht
  go_enter Tryd.func5, Tryd.ntmps5
  go_wp2_with fail
  refine (storeNew_any w).mono ?_
  rintro e w1 ⟨p, rfl, hp, hS, b1⟩
  have HS := hide hS
  have HP := hide hp
  clear hS hp
  go_wp2_with fail
  refine (leaf_any _ _).mono ?_
  rintro e w2 ⟨rfl, b2⟩
  unfold leafV V.val V.kind V.num V.str V.addr V.len V.cap
  go_wp2_with fail
  obtain ⟨g, hg⟩ : ∃ g, g = w2.heap.size := ⟨_, rfl⟩
  rw [← hg]
  obtain ⟨W3, hW3⟩ : ∃ W3, W3 = (w2.alloc bObj).alloc (.cells #[.int .i64 3, .int .i64 0, .string ⟨#[66]⟩, .slice (some ⟨g, 0, none⟩) 2 2] 32) := ⟨_, rfl⟩
  rw [← hW3]
  have b3 : Below w2.heap.size w2 W3 := by rw [hW3]; exact (below_box w2 _).alloc (by simp) _
  have hsz3 : W3.heap.size = g + 1 + 1 := by rw [hW3, hg]; simp
  have hob : W3.heap[g]? = some bObj := by
    rw [hW3, hg]; exact (Below.heap_alloc _ _ _ (by simp)).trans (World.alloc_heap_new w2 bObj)
  have hbx : CellsAt W3 (g + 1) 0 (bV g) := by
    have hb := boxed (w2.alloc bObj) (bV g)
    rw [show (w2.alloc bObj).heap.size = g + 1 by rw [hg]; simp] at hb
    rw [hW3]; exact hb
  have hge : w2.heap.size ≤ g := by omega
  have hle : g ≤ w2.heap.size := by omega
  clear hg
  have hs2 := b2.size
  have hs3 := b3.size
  have hs1 := b1.size
  have S3 : Sto W3 p S0 := (unhide HS).later (b2.trans (b3.mono hs2))
  have hown3 : ∀ k, p.own k → k < w1.heap.size := fun k e => ((unhide HS).own_lt k e).2
  have hput1 : Calls Tryd.prog 8 #[.pointer (some ⟨p.sb, 0, none⟩), .agg #[.int .i64 3, .int .i64 0, .string ⟨#[66]⟩, .slice (some ⟨g, 0, none⟩) 2 2]] W3 fun e w' => e = .returned (.tuple #[.int .i64 1, .int .i64 0]) ∧ ∃ p', Sto w' p' (S1 g) ∧ Step W3 w' p p' := by
    have := sput_any (bV g) (g + 1) W3 p S0 (b_at hob) (by omega) (fun k hk e => by have := b_uses g k hk; have := hown3 k e; omega) S3 s0_ok
    rw [put_b] at this
    exact this
  have HP1 := hide hput1
  clear hput1
  refine (unhide HP1).mono ?_
  rintro e w4 ⟨rfl, p1, S4, st4⟩
  have b4 : Below w.heap.size W3 w4 := st4.turn.below (by omega) (fun k e => by have := ((unhide HS).own_lt k e).1; have := unhide HP; omega)
  have ng : ∀ k, w1.heap.size ≤ k → k < W3.heap.size → ¬ p1.own k := fun k h1 h2 e => (st4.own k e).elim (fun e => by have := hown3 k e; omega) (fun e => by omega)
  have hob4 : w4.heap[g]? = some bObj := (st4.turn.block g (by omega) (fun e => by have := hown3 g e; omega)).trans hob
  have hbx4 : CellsAt w4 (g + 1) 0 (bV g) := hbx.stays (fun a u ha hu => by
    have : w4.cell? a = W3.cell? a := by simp only [World.cell?]; rw [st4.turn.block a.block (by rw [ha]; omega) (fun e => by rw [ha] at e; have := hown3 _ e; omega)]
    exact this.trans hu)
  have bw4 : Below w.heap.size w w4 := b1.trans (((b2.mono hs1).trans (b3.mono (by omega))).trans b4)
  have hs4 := st4.turn.size
  have H4 := hide (And.intro S4 (And.intro hob4 hbx4))
  have HNG := hide ng
  have HSB : Hid (p1.sb = p.sb) := st4.sb
  have hbase1 : Hid (p1.base = w.heap.size) := st4.base.trans (unhide HP)
  clear HP1 HS S3 hob hbx S4 st4 hob4 hbx4 ng b4 b3 hW3 hown3
  go_wp2_with fail
  refine (leaf_any _ _).mono ?_
  rintro e w5 ⟨rfl, b5⟩
  unfold leafV V.val V.kind V.num V.str V.addr V.len V.cap
  have hput2 : Calls Tryd.prog 8 #[.pointer (some ⟨p.sb, 0, none⟩), .agg #[.int .i64 3, .int .i64 0, .string ⟨#[65]⟩, .slice none 0 0]] w5 fun e w' => e = .returned (.tuple #[.int .i64 0, .int .i64 0]) ∧ ∃ p', Sto w' p' (putAll (leafV ⟨#[65]⟩) (S1 g)).2 ∧ Step w5 w' p1 p' := by
    have := sput_any (leafV ⟨#[65]⟩) 0 w5 p1 (S1 g) (leaf_at _ (by decide) _ _) (Nat.zero_le _) (fun k hk => absurd hk (leaf_uses _ _)) ((unhide H4).1.later b5) (putAll_ok s0_ok)
    rw [(put_a g).1, unhide HSB] at this
    exact this
  have HP2 := hide hput2
  clear hput2
  go_wp2_with fail
  refine (unhide HP2).mono ?_
  rintro e w6 ⟨rfl, p2, S6, st6⟩
  have hs5 := b5.size
  have hs6 := st6.turn.size
  have b6 : Below w.heap.size w5 w6 := st6.turn.below (by omega) (fun k e => by have := (((unhide H4).1.later b5).own_lt k e).1; have := unhide hbase1; omega)
  have bw6 : Below w.heap.size w w6 := (bw4.trans (b5.mono (by omega))).trans b6
  have hob6 : w6.heap[g]? = some bObj := (st6.turn.block g (by omega) (unhide HNG g (by omega) (by omega))).trans ((b5.block g (by omega)).trans (unhide H4).2.1)
  have hbx6 : CellsAt w6 (g + 1) 0 (bV g) := ((unhide H4).2.2.below b5 (by omega)).stays (fun a u ha hu => by
    have : w6.cell? a = w5.cell? a := by simp only [World.cell?]; rw [st6.turn.block a.block (by rw [ha]; omega) (by rw [ha]; exact unhide HNG _ (by omega) (by omega))]
    exact this.trans hu)
  have hsb2 : p2.sb = p.sb := st6.sb.trans (unhide HSB)
  have hatb : (bV g).At w6.heap.size w6 := (b_at hob6).more (by omega) _
  have htb : Tbl w6.heap.size w6 := ((unhide HT).below (bw6.mono hB)).more (by omega)
  have C1 : Hid (∀ i : Later w6, Calls Tryd.prog 11 #[.pointer (some ⟨p.sb, 0, none⟩)] i.val fun e w' => e = .returned (.int .i64 2) ∧ ∃ j : Later w6, w' = j.val) := fun i => by
    have := slen_any (S6.later i.h)
    rw [hsb2, (put_a g).2] at this
    exact this.mono fun e w' ⟨he, hw⟩ => ⟨he, i, hw⟩
  have C2 : Hid (∀ i : Later w6, Calls Tryd.prog 17 #[.agg #[.int .i64 3, .int .i64 0, .string ⟨#[66]⟩, .slice (some ⟨g, 0, none⟩) 2 2]] i.val fun e w' => e = .returned (.string ⟨#[36, 66, 40, 36, 65, 40, 41, 44, 32, 34, 120, 92, 34, 34, 41]⟩) ∧ ∃ j : Later w6, w' = j.val) := fun i => by
    have := text_any (bV g) w6.heap.size i.val (hatb.below i.h) i.h.size (htb.below i.h)
    rw [b_text] at this
    exact Calls.later this
  have C3 : Hid (∀ i : Later w6, Calls Tryd.prog 16 #[.string ⟨#[65]⟩] i.val fun e w' => e = .returned (.agg #[.int .i64 3, .int .i64 0, .string ⟨#[65]⟩, .slice none 0 0]) ∧ ∃ j : Later w6, w' = j.val) := fun i => Calls.later (leaf_any _ _)
  have C4 : Hid (∀ i : Later w6, Calls Tryd.prog 18 #[.agg #[.int .i64 3, .int .i64 0, .string ⟨#[65]⟩, .slice none 0 0], .agg #[.int .i64 3, .int .i64 0, .string ⟨#[66]⟩, .slice (some ⟨g, 0, none⟩) 2 2]] i.val fun e w' => e = .returned (.int .i64 (-1)) ∧ ∃ j : Later w6, w' = j.val) := fun i => by
    have := ord_any (leafV ⟨#[65]⟩) (bV g) w6.heap.size i.val (leaf_at _ (by decide) _ _) (hatb.below i.h) i.h.size
    rw [ab_ord] at this
    exact Calls.later this
  have x0 : ∀ i : Later w6, i.val.cell? ⟨g + 1, 0, none⟩ = some (.int .i64 3) := fun i => (hbx6.below i.h (by omega)).z.1
  have x1 : ∀ i : Later w6, i.val.cell? ⟨g + 1, 1, none⟩ = some (.int .i64 0) := fun i => (hbx6.below i.h (by omega)).z.2.1
  have x2 : ∀ i : Later w6, i.val.cell? ⟨g + 1, 2, none⟩ = some (.string ⟨#[66]⟩) := fun i => (hbx6.below i.h (by omega)).z.2.2.1
  have x3 : ∀ i : Later w6, i.val.cell? ⟨g + 1, 3, none⟩ = some (.slice (some ⟨g, 0, none⟩) 2 2) := fun i => (hbx6.below i.h (by omega)).z.2.2.2
  have HLE : Hid (w.heap.size ≤ w6.heap.size) := by show _ ≤ _; omega
  clear HP2 H4 HNG HSB hbase1 S6 st6 hob6 hbx6 hsb2 hatb htb b5 b6 b1 b2 bw4 hs1 hs2 hs3 hs4 hs5 hs6 hsz3 hge hle
  go_wp2_with fail
  refine region_later (by kernel_rfl) (by kernel_rfl) ?_
  repeat (go_big_quiet_step (first
    | (go_at_call 11; exact unhide C1 _)
    | (go_at_call 17; exact unhide C2 _)
    | (go_at_call 16; exact unhide C3 _)
    | (go_at_call 18; exact unhide C4 _)))
  refine wpQuiet_nil ?_
  intro w7 hw7
  obtain ⟨i, hw8⟩ := hw7
  subst hw8
  have bw7 : Below w.heap.size w i.val := bw6.trans (i.h.mono (unhide HLE))
  clear x0 x1 x2 x3 C1 C2 C3 C4
  go_wp2_with fail
  go_ret
  exact ⟨rfl, bw7⟩
end Go.Proofs.YtbfkcfhkccicoaaDoor
