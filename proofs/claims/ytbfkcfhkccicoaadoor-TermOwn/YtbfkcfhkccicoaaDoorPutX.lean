/- Walk of putting a value: held.put of a Con, the walk itself. -/
import Derived.Test.YtbfkcfhkccicoaaDoorPutW
import Derived.Test.YtbfkcfhkccicoaaDoorNodeOps
namespace Go.Proofs.YtbfkcfhkccicoaaDoor
open Go.RowKit Go.Maps Go.WideMaps

theorem args_fail {v : V} {k : Nat} {S : SS} (hk : k < v.len) (h0 : (args v k S).err = 0) (he : ¬ ((v.kid k).putV (args v k S).S).1.2 = 0) : (args v v.len S).err = ((v.kid k).putV (args v k S).S).1.2 ∧ (args v v.len S).S = ((v.kid k).putV (args v k S).S).2 := by
  have e1 : args v (k + 1) S = ⟨((v.kid k).putV (args v k S).S).2, fun j => if j = k then ((v.kid k).putV (args v k S).S).1.1 else (args v k S).nums j, ((v.kid k).putV (args v k S).S).1.2⟩ := by
    show argsTo _ (k + 1) S = _
    rw [argsTo_succ, if_pos h0]
  have e2 : args v v.len S = args v (k + 1) S := argsTo_stop (by show ¬ (args v (k + 1) S).err = 0; rw [e1]; exact he) _ hk
  rw [e2, e1]
  exact ⟨rfl, rfl⟩

set_option maxRecDepth 100000 in
set_option maxHeartbeats 16000000 in
theorem put_con (hPN : PutNodeC) (v : V) (ih : ∀ i, i < v.len → PutC (v.kid i)) (B : Nat) (W : World) (p : SP) (S : SS) (d : Nat) (hat : v.At B W) (hB : B ≤ W.heap.size) (hu : ∀ k, v.uses k → ¬ p.own k) (h : Sto W p S) (ok : S.Ok) (hm : v.may d = true) (hk : v.kind = 3)
    (hokk : ∀ i, i < v.len → ∀ S, S.Ok → ((v.kid i).putV S).2.Ok) :
    Calls Tryd.prog 23 #[.pointer (some ⟨p.hb, 0, none⟩), v.val] W fun e w' => e = .returned (.tuple #[.int .i64 (v.putV S).1.1, .int .i64 (v.putV S).1.2]) ∧ ∃ p', Sto w' p' (v.putV S).2 ∧ Step W w' p p' := by
  have hmk := hm
  rw [may_con hk] at hmk
  simp only [Bool.and_eq_true, decide_eq_true_eq] at hmk
  obtain ⟨⟨⟨⟨hg1, hg2⟩, hwd⟩, h8⟩, hkids⟩ := hmk
  have hws := wd_size hwd
  have HM : Hid (∀ i, i < v.len → (v.kid i).may (d - 1) = true) := fun i hi => (allTo_iff _ _).1 hkids i hi
  have hsb := Sym.lt_of_heap h.st
  have H := hide (V.putV_con hk S)
  have IH := hide ih
  have HPN := hide hPN
  have HOKK := hide hokk
  have HU := hide hu
  have hl8 : (v.len : Int) ≤ 8 := by omega
  have PS0 := hide (pr_start hat hB h ok _ (node_start v).symm)
  unfold V.obj at PS0
  clear hg1 hg2 hwd hkids hm ih hPN hokk hu
  unfold V.val
  generalize hA : v.addr = A at PS0 ⊢
  have HA := hide hA
  rw [hk] at PS0 ⊢
  have HK := hide hk
  clear hA hk
  go_enter Tryd.func23, Tryd.ntmps23
  go_wp2_with fail
  go_loopw [35] (fun i wr => ∃ k : Nat, k ≤ v.len ∧ i = .int .i64 k ∧ Hid (∃ q, PR W v B p S k wr q)) (fun i _ => v.len - (intOf i).toNat)
  case atStart => exact ⟨0, Nat.zero_le _, rfl, ⟨p, unhide PS0⟩⟩
  case round =>
    obtain ⟨k, hkl, rfl, hpr⟩ := hrel
    obtain ⟨q, hq⟩ := unhide hpr
    clear hpr PS0
    have hqb : q.hb = p.hb := hq.step.hb
    by_cases hlt : k < v.len
    · obtain ⟨g, o, ha, hg, hc⟩ := hq.at_.flat.at_ k hlt
      rw [unhide HA] at ha
      subst ha
      have c0 := hc.c0
      have c1 := hc.c1
      have c2 := hc.c2
      have c3 := hc.c3
      have hbwr : B ≤ wr.heap.size := by have := hq.sz; omega
      have b1 := below_box wr (v.kid k).obj
      have hcall := unhide IH k hlt B (wr.alloc (v.kid k).obj) q (args v k S).S (d - 1) ((hq.at_.kid k hlt).below (b1.mono hbwr)) (by simp; omega) (fun j hj e => by
        have hju : v.uses j := (V.uses_eq v j).2 (.inr ⟨k, hlt, hj⟩)
        have hjl := V.uses_lt v hq.at_ j hju
        exact (hq.step.own j e).elim (unhide HU j hju) (fun e => by omega)) (hq.sto.later b1) hq.ok (unhide HM k hlt)
      rw [hqb] at hcall
      have HC := hide hcall
      have HQ := hide hq
      have HQB := hide hqb
      clear hcall hq hc hqb b1
      have hk8 : (k : Int) < 8 := by omega
      go_wp2_with fail
      refine (unhide HC).mono ?_
      rintro e w2 ⟨rfl, q', hs2, st2⟩
      have HS2 := hide hs2
      have HST2 := hide st2
      clear c0 c1 c2 c3 hs2 st2 HC
      by_cases he : ((v.kid k).putV (args v k S).S).1.2 = 0
      · have heb : (((v.kid k).putV (args v k S).S).1.2 != 0) = false := by simp [he]
        have st3 : Step wr w2 q q' := (unhide HST2).before (below_box wr _)
        have nb2 : NB w2 (W.heap.size + 1) (nodeAt v (args v k S).nums k) := (unhide HQ).node.turn st3.turn (unhide HQ).g1
        have x1 := nb2.cell (2 + k) (by omega)
        have y1 := nb2.frozen (2 + k)
        have nb3 := nb2.set (i := 2 + k) (by omega) (v.kid k).kind
        have x2 := nb3.cell (10 + k) (by omega)
        have y2 := nb3.frozen (10 + k)
        have hbx : w2.cell? ⟨wr.heap.size, 0, none⟩ = some (.int .i64 (v.kid k).kind) := by
          have hx := (boxed wr (v.kid k)).c0
          have : w2.cell? ⟨wr.heap.size, 0, none⟩ = (wr.alloc (v.kid k).obj).cell? ⟨wr.heap.size, 0, none⟩ := by
            simp only [World.cell?]
            rw [(unhide HST2).turn.block _ (by simp) (fun e => by have := ((unhide HQ).sto.own_lt _ e).2; omega)]
          exact this.trans hx
        have hN := hide (pr_next hB hsb (unhide HU) hlt h8 (unhide HM k hlt) (unhide HQ) (unhide HS2) (unhide HST2) he (unhide HOKK k hlt _ (unhide HQ).ok))
        have HE := hide he
        clear he nb2 nb3 st3
        generalize nodeAt v (args v k S).nums k = N at *
        go_wp2_with fail
        go_roundw
        case rel => first | exact ⟨k + 1, by omega, by go_num, ⟨q', unhide hN⟩⟩ | ((repeat apply Exists.intro); exact ⟨⟨k + 1, by omega, by go_num, ⟨q', unhide hN⟩⟩, rfl⟩)
        case measure => simp [intOf]; omega
      · have heb : (((v.kid k).putV (args v k S).S).1.2 != 0) = true := bne_iff_ne.2 he
        have hF := hide (args_fail hlt (unhide HQ).err he)
        have HE := hide he
        clear he
        go_wp2_with fail
        go_ret2
        have e1 : v.putV S = ((0, ((v.kid k).putV (args v k S).S).1.2), ((v.kid k).putV (args v k S).S).2) := by
          rw [unhide H]
          show (if (args v v.len S).err = 0 then _ else ((0, (args v v.len S).err), (args v v.len S).S)) = _
          rw [(unhide hF).1, (unhide hF).2, if_neg (unhide HE)]
        refine ⟨ret_ii' (by rw [e1]), q', ?_, (unhide HQ).step.trans ((unhide HST2).before (below_box wr _))⟩
        rw [e1]; exact unhide HS2
    · have hke : k = v.len := by omega
      subst hke
      have z2 := hq.box.z.2.2.1
      have hN := hq.node
      have hbits := nodeAt_bits hq.at_ (Nat.le_refl _) h8 hq.bits
      have hcall := unhide HPN wr q (args v v.len S).S hq.sto hq.ok v.str (nodeAt v (args v v.len S).nums v.len) hws hbits
      have HF : Hid (v.putV S = putNodeV (args v v.len S).S v.str (nodeAt v (args v v.len S).nums v.len)) := by
        show _ = _
        rw [unhide H]
        exact if_pos hq.err
      rw [hqb] at hcall
      generalize nodeAt v (args v v.len S).nums v.len = N at *
      have HN := hide hN
      have HC := hide hcall
      have HQ := hide hq
      clear hcall hq hN hbits hqb
      go_wp2_with (refine wpList_load98 rfl _ rfl rfl (unhide HN) ?_)
      refine (unhide HC).mono ?_
      rintro e w2 ⟨rfl, q', hs2, st2⟩
      have HS2 := hide hs2
      have HST2 := hide st2
      clear hs2 st2 HC z2
      go_wp2_with fail
      go_ret2
      refine ⟨ret_ii' (by rw [unhide HF]), q', ?_, (unhide HQ).step.trans (unhide HST2)⟩
      rw [unhide HF]; exact unhide HS2
end Go.Proofs.YtbfkcfhkccicoaaDoor
