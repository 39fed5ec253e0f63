/- backCon, walked. -/
import Derived.Test.YtbfkcfhkccicoaaDoorMBack
import Derived.Deep.RegionWith
import Derived.Deep.Cut
import Derived.Deep.CutRange
namespace Go.Proofs.YtbfkcfhkccicoaaDoor
open Go.RowKit Go.Maps
attribute [local go_sem ↓] loadAt98 storeAt98

set_option maxRecDepth 100000 in
set_option maxHeartbeats 4000000 in
theorem backCon_any (v : V) (ih : ∀ i, i < v.len → BackC (v.kid i)) (hk : v.kind = 3) : BackConC v := by
  intro W p S d m h h18 hm hs hin
  rw [isIn_con hk] at hin
  obtain ⟨j, wd, nums, rfl, hj, hwd, hkids⟩ := hin
  have b1 := below_box W (.cells #[.int .i64 0, .int .i64 0, .string ⟨#[]⟩, .slice none 0 0] 32)
  have h1 := h.later b1
  obtain ⟨g, hna, hload⟩ := row_load h1 h18 hj
  have d2 := h1.d2
  rw [hna] at d2
  have hjl : j < S.ns.length := (List.getElem?_eq_some_iff.1 hj).1
  have hge : decide (S.ns.length ≤ j) = false := decide_eq_false (by omega)
  have hst := fun c hc => new_node_store (W.alloc (.cells #[.int .i64 0, .int .i64 0, .string ⟨#[]⟩, .slice none 0 0] 32)) c hc ((nodeAt v nums v.len).at0 wd).list (Nd.len _)
  rw [show (W.alloc (.cells #[.int .i64 0, .int .i64 0, .string ⟨#[]⟩, .slice none 0 0] 32)).heap.size = W.heap.size + 1 by simp] at hst
  have hst2 := hst #[.int .i64 0, .int .i64 0, .int .i64 0, .int .i64 0, .int .i64 0, .int .i64 0, .int .i64 0, .int .i64 0, .int .i64 0, .int .i64 0, .int .i64 0, .int .i64 0, .int .i64 0, .int .i64 0, .int .i64 0, .int .i64 0, .int .i64 0, .int .i64 0] rfl
  rw [storeAt98] at hst2
  generalize hX : ndVal ((nodeAt v nums v.len).at0 wd).list = X at hload hst2
  clear hst h1
  have hl16 : S.ns.length ≤ 16384 := h.len
  go_enter Tryd.func37, Tryd.ntmps37
  go_wp2_with fail
  clear hload hst2 d2 hge
  obtain ⟨N, hN⟩ : ∃ N : Nd, N = (nodeAt v nums v.len).at0 wd := ⟨_, rfl⟩
  rw [← hN]
  obtain ⟨W3, hW3⟩ : ∃ W3, W3 = (((W.alloc (.cells #[.int .i64 0, .int .i64 0, .string ⟨#[]⟩, .slice none 0 0] 32)).alloc (.cells (N.list.map (Value.int .i64)).toArray 81)).alloc (.cells #[.int .i64 3, .int .i64 0, .string ⟨#[]⟩, .slice none 0 0] 32)) := ⟨_, rfl⟩
  rw [← hW3]
  have hT : BS0 W W3 N := by rw [hW3]; exact bs0_start W N
  clear hW3 b1
  have hS3 : Sto W3 p S := h.later hT.bw
  have d1 : W3.drew.cell? ⟨p.hb, 1, none⟩ = _ := hS3.d1
  have n0 : W3.drew.cell? ⟨W.heap.size + 1, 0, none⟩ = some (.int .i64 (wd : Int)) := by
    have := hT.node.cell 0 (by omega)
    rw [hN] at this
    exact this
  have n1 : W3.cell? ⟨W.heap.size + 1, 1, none⟩ = some (.int .i64 (v.len : Int)) := by
    have := hT.node.cell 1 (by omega)
    rw [hN] at this
    exact this
  have f2 : W3.drew.frozen? ⟨W.heap.size + 1 + 1, 2, none⟩ = false := by
    show W3.frozen? _ = _
    simp [World.frozen?, hT.val]
  have x2 : W3.drew.cell? ⟨W.heap.size + 1 + 1, 2, none⟩ = some (.string ⟨#[]⟩) := by
    show W3.cell? _ = _
    simp [World.cell?, hT.val]
  have HC : Hid (Calls Tryd.prog 55 #[.pointer (some ⟨p.t2, 0, none⟩), .int .i64 (wd : Int)] W3.drew fun e w' => e = .returned (.tuple #[.string v.str, .bool true]) ∧ w' = W3.drew) := by
    have C := Sym.text_any (hS3.later ((Below.refl _ _).drew)).T2 (wd : Int)
    rw [(sym_at hwd).1, (sym_at hwd).2] at C
    exact C
  have HS3 := hide hS3
  have HT := hide hT
  have HN := hide hN
  have IH := hide ih
  have HS := hide hs
  have HM := hide hm
  have HKI := hide hkids
  have H18 := hide h18
  have HKK := hide hk
  have HSTO := hide h
  clear hS3 hT hN hX ih hs hm hkids h18 hk hj hwd h hjl hl16 hna
  go_cut [] from 31 to 41 (fun w => w = (W3.setCell ⟨W.heap.size + 1 + 1, 2, none⟩ (.string v.str)).drew)
  case first =>
    go_region_with (go_at_call 55; refine (unhide HC).mono ?_; rintro e w' ⟨rfl, rfl⟩)
    all_goals go_wp2_with fail
    all_goals go_meet
    all_goals rfl
  case rest =>
    subst hcut
    have k1 : (W3.setCell ⟨W.heap.size + 1 + 1, 2, none⟩ (.string v.str)).drew.cell? ⟨W.heap.size + 1, 1, none⟩ = some (.int .i64 (v.len : Int)) :=
      (World.cell?_setCell_other _ _ _ _ (by simp)).trans n1
    go_wp2_with fail
    have HL : Hid (∃ us, BL W ((W3.setCell ⟨W.heap.size + 1 + 1, 2, none⟩ (.string v.str)).drew) v N 0 us) := ⟨fun _ => .none, bl_start (unhide HT)⟩
    clear n0 n1 d1 f2 x2 HC HT HS3
    go_loopw [44] (fun i wr => ∃ k : Nat, k ≤ v.len ∧ i = .int .i64 k ∧ Hid (∃ us, BL W wr v N k us)) (fun i _ => v.len - (intOf i).toNat)
    case atStart => exact ⟨0, Nat.zero_le _, rfl, HL⟩
    case round =>
      obtain ⟨k, hk, rfl, hR⟩ := hrel
      clear HL
      by_cases hlt : k < v.len
      · obtain ⟨us, hb⟩ := unhide hR
        have h8 := (may_con_num (unhide HM) (unhide HKK)).2
        have n2 : wr.drew.cell? ⟨W.heap.size + 1, 2 + k, none⟩ = some (.int .i64 (v.kid k).kind) := by
          have := hb.node.cell (2 + k) (by omega)
          rw [unhide HN] at this
          simp only [Nd.at0, nodeAt] at this
          rw [if_neg (by omega), if_neg (by omega), if_neg (by omega), if_pos (by omega), if_pos (by omega), show 2 + k - 2 = k by omega] at this
          exact this
        have n10 : wr.drew.cell? ⟨W.heap.size + 1, 10 + k, none⟩ = some (.int .i64 (nums k)) := by
          have := hb.node.cell (10 + k) (by omega)
          rw [unhide HN] at this
          simp only [Nd.at0, nodeAt] at this
          rw [if_neg (by omega), if_neg (by omega), if_neg (by omega), if_neg (by omega), if_pos (by omega), show 10 + k - 10 = k by omega] at this
          exact this
        have m2 : (wr.alloc (.cells #[.int .i64 0, .int .i64 0, .string ⟨#[]⟩, .slice none 0 0] 32)).drew.cell? ⟨W.heap.size + 1, 2 + k, none⟩ = some (.int .i64 (v.kid k).kind) :=
          (World.cell?_alloc_lt wr _ _ (by have := hb.sz; show W.heap.size + 1 < _; omega)).trans n2
        have m10 : (wr.alloc (.cells #[.int .i64 0, .int .i64 0, .string ⟨#[]⟩, .slice none 0 0] 32)).drew.cell? ⟨W.heap.size + 1, 10 + k, none⟩ = some (.int .i64 (nums k)) :=
          (World.cell?_alloc_lt wr _ _ (by have := hb.sz; show W.heap.size + 1 < _; omega)).trans n10
        have HCALL : Hid (∀ w', Below W.heap.size W w' → Calls Tryd.prog 25 #[.pointer (some ⟨p.hb, 0, none⟩), .int .i64 (v.kid k).kind, .int .i64 (nums k)] w' fun e w2 => ∃ r, e = .returned (.tuple #[r, .bool true]) ∧ Got w' w2 (v.kid k) r ∧ Below w'.heap.size w' w2) :=
          fun w' hw => unhide IH k hlt w' p S (d - 1) (nums k) ((unhide HSTO).later hw) (unhide H18) (may_kids (unhide HM) (unhide HKK) k hlt) ((unhide HS).kid k hlt) (unhide HKI k hlt)
        have HBW := hide hb.bw
        have HBL := hide hb
        obtain ⟨sl, hbx, hrow, hsep⟩ := hb.box
        have HBX := hide hbx
        have HROW := hide hrow
        have HSEP := hide hsep
        clear hbx hrow hsep
        have hk8 : (k : Int) < 8 := by omega
        clear hb
        go_wp2_with fail
        go_cut [9, 10] from 47 to 59 (fun b _ w => ∃ g u, b = .pointer (some ⟨g, 0, none⟩) ∧ Made wr w g u (v.kid k))
        case first =>
          go_region_with (go_at_call 25; refine (unhide HCALL _ (by first | exact (unhide HBW).drew | exact ((unhide HBW).alloc (unhide HBW).size _).drew)).mono ?_; rintro e w2 ⟨r, rfl, ⟨u, rfl, hu, hul, huf, hup⟩, b2⟩; first | (have hbf := box_facts b2; obtain ⟨x0, x1, x2, x3, f0⟩ := hbf) | skip)
          all_goals go_wp2_with fail
          all_goals go_meet
          all_goals first
            | exact ⟨_, u, rfl, made_after b2 hu hul huf hup⟩
            | exact ⟨_, u, rfl, made_before b2 hu hul huf hup⟩
        case rest =>
          obtain ⟨g2, u, rfl, hM⟩ := hcut
          have HMA := hide hM
          obtain ⟨y0, y1, y2, y3⟩ := hM.box.z
          have hsz := (unhide HBL).sz
          have s3 : wc.cell? ⟨W.heap.size + 1 + 1, 3, none⟩ = some sl := by
            simp only [World.cell?]
            rw [hM.below.block _ (by omega), unhide HBX]
            rfl
          have hsc : W.heap.size + 3 ≤ wc.heap.size := Nat.le_trans hsz hM.below.size
          clear hM n2 n10 m2 m10 HCALL k1
          go_wp2_with (at_builtin; refine wpList_append_val _ rfl _ _ rfl (W.heap.size + 3) sl k (cellsTo us k) rfl (World.ownsRow.alloc (ownsRow_below (unhide HROW) (unhide HMA).below) _) ⟨wc.heap.size, 0, none⟩ 1 u rfl (row_new _ _) (by omega) (by simp; omega) ?_; intro v' w5 o5 g5 a5; obtain ⟨ao, lo, co, ev⟩ := own_shape o5; subst ev; have f3 := frozen_mid (bl_mid (unhide HBL).sz (unhide HBX) (unhide HROW) (unhide HMA).below g5); have s5 := cell_mid (bl_mid (unhide HBL).sz (unhide HBX) (unhide HROW) (unhide HMA).below g5))
          go_roundw
          case rel => exact ⟨k + 1, by omega, by go_num, ⟨_, bl_next (unhide HBL) (unhide HBX) (unhide HROW) (unhide HSEP) (unhide HMA) o5 g5 a5⟩⟩
          case measure => simp [intOf]; omega
      · have hk2 : k = v.len := by omega
        subst hk2
        obtain ⟨us, hb⟩ := unhide hR
        obtain ⟨sl, hbx, hrow, hsep⟩ := hb.box
        obtain ⟨a, cap, rfl, hgot⟩ := bl_end hb (unhide HM) (unhide HKK) (unhide HS) hrow hsep
        have HG := hide hgot
        have r0 : ∀ o, wr.frozen? ⟨W.heap.size, o, none⟩ = false := fun o => by simp [World.frozen?, hb.res]
        have e0 : wr.cell? ⟨W.heap.size, 0, none⟩ = some (.int .i64 0) := by simp [World.cell?, hb.res]
        have e1 : wr.cell? ⟨W.heap.size, 1, none⟩ = some (.int .i64 0) := by simp [World.cell?, hb.res]
        have e2 : wr.cell? ⟨W.heap.size, 2, none⟩ = some (.string ⟨#[]⟩) := by simp [World.cell?, hb.res]
        have e3 : wr.cell? ⟨W.heap.size, 3, none⟩ = some (.slice none 0 0) := by simp [World.cell?, hb.res]
        have z0 : wr.cell? ⟨W.heap.size + 1 + 1, 0, none⟩ = some (.int .i64 3) := by simp [World.cell?, hbx]
        have z1 : wr.cell? ⟨W.heap.size + 1 + 1, 1, none⟩ = some (.int .i64 0) := by simp [World.cell?, hbx]
        have z2 : wr.cell? ⟨W.heap.size + 1 + 1, 2, none⟩ = some (.string v.str) := by simp [World.cell?, hbx]
        have z3 : wr.cell? ⟨W.heap.size + 1 + 1, 3, none⟩ = some (.slice a v.len cap) := by simp [World.cell?, hbx]
        have HBW := hide hb.bw
        clear hb hbx hrow hsep hR k1 hgot
        go_wp2_with fail
        refine bodyPost_ret (v := .tuple #[.agg #[.int .i64 3, .int .i64 0, .string v.str, .slice a v.len cap], .bool true]) (by simp [results, Tryd.results37, go_sem, e0, e1, e2, e3]) rfl ?_
        exact ⟨_, rfl, unhide HG _ _ _ _, ((((unhide HBW).setCell (Nat.le_refl _) _).setCell (Nat.le_refl _) _).setCell (Nat.le_refl _) _).setCell (Nat.le_refl _) _⟩
end Go.Proofs.YtbfkcfhkccicoaaDoor
