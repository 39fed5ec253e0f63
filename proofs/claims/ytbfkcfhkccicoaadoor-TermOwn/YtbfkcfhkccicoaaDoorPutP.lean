/- Walk of putting a new node: putNode. -/
import Derived.Test.YtbfkcfhkccicoaaDoorMPut
import Derived.Test.YtbfkcfhkccicoaaDoorNodeSl
import Derived.Deep.CutRange
import Derived.StillTailTactics
namespace Go.Proofs.YtbfkcfhkccicoaaDoor
open Go.RowKit Go.Maps Go.WideMaps

theorem Step.near {W W' W'' : World} {p p' : SP} {g : Nat} (h : Step W W' p p') (t : Turn (· = g) W' W'') (hg : W.heap.size ≤ g) : Step W W'' p p' :=
  ⟨h.turn.trans t (fun i hi e => absurd hi (by omega)), h.own, h.sb, h.hb, h.base⟩

attribute [local go_sem ↓] loadAt98 buildSlice98

set_option maxRecDepth 100000 in
set_option maxHeartbeats 16000000 in
theorem putNode_new {W : World} {p : SP} {S : SS} (h : Sto W p S) (ok : S.Ok) (word : ByteArray) (n : Nd) (hw : word.size ≤ 64) (hn : InBits n.list) (hf : (findV S word n).2 = false) (hl2 : S.ns.length < 16384) :
    Calls Tryd.prog 33 #[.pointer (some ⟨p.hb, 0, none⟩), .string word, ndVal n.list] W fun e w' => e = .returned (.tuple #[.int .i64 (putNodeV S word n).1.1, .int .i64 (putNodeV S word n).1.2]) ∧
      ∃ p', Sto w' p' (putNodeV S word n).2 ∧ Step W w' p p' := by
  have hfind := find_any (h.later (below_box W (.cells (n.list.map (Value.int .i64)).toArray 81))) word n hw hn
  have hnb := nb_alloc W n
  have hbb := below_box W (.cells (n.list.map (Value.int .i64)).toArray 81)
  have HF := hide hfind
  have HNB := hide hnb
  have HB := hide hbb
  clear hfind hnb hbb
  have hli : decide ((16384 : Int) ≤ (S.ns.length : Int)) = false := decide_eq_false (by omega)
  have H := hide (putNodeV_new hf hl2)
  have H1 : Hid ((putNodeV S word n).1 = ((S.ns.length : Int), 0)) := by show _ = _; rw [unhide H]
  have HNEW := hide (new_node ok hf hl2)
  go_enter Tryd.func33, Tryd.ntmps33
  go_wp2_with (first
    | (refine wpList_box98 rfl _ rfl rfl ?_)
    | (refine wpList_load98 rfl _ rfl rfl (unhide HNB) ?_))
  refine (unhide HF).mono ?_
  rintro e w1 ⟨rfl, b1⟩
  have bw : Below W.heap.size W w1 := (unhide HB).trans (b1.mono (by simp))
  have h1 := h.later bw
  have d1 := h1.d1
  have d2 := h1.d2
  have hnb1 : NB w1 W.heap.size n := (unhide HNB).later b1 (by simp)
  have hs1 : W.heap.size < w1.heap.size := Sym.lt_of_heap hnb1
  clear b1 HNB HF HB
  go_wp2_with fail
  refine (Sym.put_any h1.T2 word (by omega)).mono ?_
  rintro e w2 ⟨rfl, a', c', L⟩
  obtain ⟨h2, st2⟩ := h1.put2 L
  have hg2 : ¬ p.own W.heap.size := fun e => by have := (h.own_lt _ e).2; omega
  have hnb2 : NB w2 W.heap.size n := hnb1.turn st2.turn hg2
  have c0 := hnb2.cell 0 (by omega)
  have f0 := hnb2.frozen 0
  have hg3 : ∀ k, (k = p.sb ∨ ({ p with a2 := a', c2 := c' } : SP).own k) → ¬ k = W.heap.size := fun k e e2 => by
    subst e2
    rcases e with e | e
    · have := Sym.lt_of_heap h.st; omega
    · exact (st2.own _ e).elim hg2 (fun e => by omega)
  have t3 : Turn (· = W.heap.size) w2 (w2.setCell ⟨W.heap.size, 0, none⟩ (.int .i64 (Sym.ansN S.ws word : Int))) := Turn.setCell (S := fun x => x = W.heap.size) _ _ _ rfl
  have h3 := h2.stays t3 hg3
  have hnb3 : NB _ W.heap.size (n.at0 (Sym.ansN S.ws word)) := hnb2.set (i := 0) (by omega) (Sym.ansN S.ws word : Int)
  have e2 := h3.d2
  have HH3 := hide h3
  have HNB3 := hide hnb3
  have HST2 := hide st2
  have HT3 := hide t3
  clear h3 hnb3 st2 t3 hg3 hnb2 hnb1 h2 h1 L
  go_upto_region 8 with fail
  generalize hW3 : w2.setCell ⟨W.heap.size, 0, none⟩ (.int .i64 (Sym.ansN S.ws word : Int)) = w3 at *
  have h3 := unhide HH3
  have hnb3 := unhide HNB3
  have hlt3 : W.heap.size < w3.heap.size := Sym.lt_of_heap hnb3
  have hld := nodeLoad_run (w := w3.drew) hnb3
  have hsl := fun w => nodeSlice_run w (n.at0 (Sym.ansN S.ws word))
  have g2 := h3.f2
  have hbase3 : p.base ≤ w3.heap.size := h3.T1.from_.2.2
  have e2a : ∀ o, (w3.alloc o).cell? ⟨p.hb, 2, none⟩ = some (.slice p.na S.ns.length p.nc) := fun o => (h3.later (below_box w3 o)).d2
  have H3 := hide h3
  have HS3 := hide h3
  have HN3 := hide hnb3
  clear h3 hnb3 HH3 HNB3 c0 f0 hW3
  go_cut [] from 11 to 50 (fun wx => ∃ na' nc', Mid w3 wx { p with a2 := a', c2 := c' } ⟨S.xs, Sym.put S.ws word, S.ns⟩ (n.at0 (Sym.ansN S.ws word)).list na' nc')
  case first =>
    have hrowU : ∀ o, NRow (w3.alloc o) p.base p.na p.nc S.ns := fun o => ((unhide H3).later (below_box w3 o)).row
    have hcellU : ∀ j u, ((n.at0 (Sym.ansN S.ws word)).list.map (Value.int .i64))[j]? = some u → (w3.alloc (.cells (((n.at0 (Sym.ansN S.ws word)).list).map (Value.int .i64)).toArray 81)).cell? (Addr.add ⟨w3.heap.size, 0, none⟩ j) = some u := fun j u hj => by
      have hA : Addr.add ⟨w3.heap.size, 0, none⟩ j = ⟨w3.heap.size, j, none⟩ := by cases j <;> simp [Addr.add]
      rw [hA]
      simp only [World.cell?]
      rw [World.alloc_heap_new]
      simpa using hj
    have HR := hide hrowU
    have HC := hide hcellU
    clear hrowU hcellU
    go_region_law (refine step_append_node rfl (.tmp 45) (.tmp 47) rfl p.base p.na p.nc S.ns (by simp [Act.eval]) (unhide HR _) (n.at0 (Sym.ansN S.ws word)).list (Nd.len _) ⟨w3.heap.size, 0, none⟩ (by simp [Act.eval]) (unhide HC) hl2 (by simp; omega) ?_
                   intro na' nc' w4 hrow4 hg4 hat4
                   have hheld4 : w4.heap[p.hb]? = some (.cells #[.pointer (some ⟨p.t1, 0, none⟩), .pointer (some ⟨p.t2, 0, none⟩), .slice p.na S.ns.length p.nc, .map (some p.mb)] 52 (0, 0)) := (hg4.block p.hb (Nat.lt_of_lt_of_le (Sym.lt_of_heap (unhide H3).held) (by simp)) (fun e => (unhide H3).hb_not.2.2.2 e.symm)).trans ((Below.heap_alloc w3 _ _ (Sym.lt_of_heap (unhide H3).held)).trans (unhide H3).held)
                   have c4 : w4.cell? ⟨p.hb, 2, none⟩ = some (.slice p.na S.ns.length p.nc) := by simp [World.cell?, hheld4]
                   have f4 : w4.frozen? ⟨p.hb, 2, none⟩ = false := by simp [World.frozen?, hheld4]
                   have M4 := hide (mid_of (unhide H3) (below_box w3 _).drew hrow4 hg4 hat4)
                   clear hheld4)
    all_goals (go_wp2_with fail; go_meet; exact ⟨_, _, unhide M4⟩)
  case rest =>
    obtain ⟨na', nc', hM⟩ := hcut
    have z3 : wc.cell? ⟨p.hb, 3, none⟩ = some (.map (some p.mb)) := by simp [World.cell?, hM.held]
    have hnb4 : NB wc W.heap.size (n.at0 (Sym.ansN S.ws word)) := (unhide HN3).turn hM.turn (fun e => by
      have hx := (unhide H3).own_lt
      have hh := h.own_lt
      rcases e with e | e
      · have := (hh p.hb (.inl rfl)).2; simp only at e; omega
      · have := (hh W.heap.size (.inr (.inr (.inr (.inr e))))).2; omega)
    have HN4 : Hid (NB wc.drew W.heap.size (n.at0 (Sym.ansN S.ws word))) := hnb4
    obtain ⟨D, hm, hD⟩ := hM.map
    have hans : Sym.ansN S.ws word ≤ 16384 := Nat.le_trans (Sym.ansN_le _ _) h.T2.len
    have hin2 : InBits (n.at0 (Sym.ansN S.ws word)).list := fun x hx => by
      simp only [Nd.list, List.mem_map, List.mem_range] at hx
      obtain ⟨j, hj, rfl⟩ := hx
      unfold Nd.at0
      split
      · omega
      · exact hn (n j) (by simp [Nd.list]; exact ⟨j, hj, rfl⟩)
    obtain ⟨kl, hkl⟩ := key_node (n.at0 (Sym.ansN S.ws word)) hin2
    have hkey := hkl
    have HM := hide hM
    have HMM := hide hm
    have HKEY := hide hkey
    have HKL := hide hkl
    have HD := hide hD
    have hwl : (Lit.int .i64 (S.ns.length : Int)).wf = true := WalkArith.wf_i64 (by omega)
    have HWL := hide hwl
    clear hM hm hkey hkl hD hwl hin2 hnb4 H3
    go_upto_region 9 with fail
    refine region_tail 6 (by kernel_rfl) (by kernel_rfl) ?_
    simp only [List.take_succ_cons, List.take_zero, List.drop_succ_cons, List.drop_zero]
    still_step
    still_step
    still_step
    still_step
    refine still_load98 rfl _ rfl rfl (N := n.at0 (Sym.ansN S.ws word)) (g := W.heap.size) (unhide HN4) ?_
    repeat still_step
    refine wpStill_nil ?_
    go_wp2_with (at_mapUpdate; refine wpList_mapUpdate_own _ rfl _ _ _ 49 rfl 81 3 law98 Tryd.underlying49 _ p.mb _ D rfl (owns_heap (unhide HMM) rfl) (by unfold maxLen; simp only; omega) _ _ _ rfl rfl (unhide HKEY) _ [] (plainElem_int Tryd.underlying3 (unhide HWL)) ?_; intro w6 hm6 hg6)
    have hg7 : wc.grownBy w6 (some p.mb) := ⟨hg6.os, hg6.tape, hg6.output, hg6.size, hg6.block⟩
    have HM6 := hide hm6
    have HG7 := hide hg7
    clear hm6 hg6 hg7
    go_wp2_with fail
    go_ret2
    obtain ⟨hS, hT⟩ := fin_of (unhide HS3) (unhide HM) hl2 (unhide HD) (unhide HKL) (unhide HNEW) (unhide HM6) (unhide HG7)
    refine ⟨ret_ii (unhide H1), _, ?_, (((unhide HST2).before bw).near (unhide HT3) (Nat.le_refl _)).trans hT⟩
    rw [unhide H]; exact hS
end Go.Proofs.YtbfkcfhkccicoaaDoor
