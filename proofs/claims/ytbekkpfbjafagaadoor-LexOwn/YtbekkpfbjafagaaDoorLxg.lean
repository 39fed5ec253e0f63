/- What a token's walk answers; walks of a fault, a copy, a name and a number. -/
import Derived.Test.YtbekkpfbjafagaaDoorLxf
import Derived.Test.YtbekkpfbjafagaaDoorNmp
namespace Go.Proofs.YtbekkpfbjafagaaDoor
open Go.RowKit

/-- What is answered of one token: the token, the place behind it, the fault. -/
structure TV where
  kd : Int
  tx : ByteArray
  nm : Int
  at_ : Int
  nd : Int
  why : Int
  fa : Int
abbrev TV.val (t : TV) : Value := .tuple #[.agg #[.int .i64 t.kd, .string t.tx, .int .i64 t.nm, .int .i64 t.at_], .int .i64 t.nd, .agg #[.int .i64 t.why, .int .i64 t.fa]]
def resT (k : Nat) : Res → TV
  | .tok kd tx nm n => ⟨kd, ⟨tx.toArray⟩, nm, (k : Int), ((k + n : Nat) : Int), 0, 0⟩
  | .bad why o => ⟨0, ⟨#[]⟩, 0, 0, 0, why, ((k + o : Nat) : Int)⟩

theorem resT_tok (k : Nat) (kd : Int) (u : ByteArray) (nm : Int) (n : Nat) : resT k (.tok kd u.data.toList nm n) = ⟨kd, u, nm, (k : Int), (k : Int) + (n : Int), 0, 0⟩ := by
  cases u; simp [resT]

abbrev tokZ : Obj := .cells #[.int .i64 0, .string ⟨#[]⟩, .int .i64 0, .int .i64 0] 32
abbrev fltZ : Obj := .cells #[.int .i64 0, .int .i64 0] 25
/-- Both results' boxes lie there as they were made. -/
structure Boxes (w : World) (b c : Nat) : Prop where
  x0 : w.cell? ⟨b, 0, none⟩ = some (.int .i64 0)
  x1 : w.cell? ⟨b, 1, none⟩ = some (.string ⟨#[]⟩)
  x2 : w.cell? ⟨b, 2, none⟩ = some (.int .i64 0)
  x3 : w.cell? ⟨b, 3, none⟩ = some (.int .i64 0)
  y0 : w.cell? ⟨c, 0, none⟩ = some (.int .i64 0)
  y1 : w.cell? ⟨c, 1, none⟩ = some (.int .i64 0)
  fx : ∀ o, w.frozen? ⟨b, o, none⟩ = false
  fy : ∀ o, w.frozen? ⟨c, o, none⟩ = false
theorem two_made (w : World) : Below w.heap.size w ((w.alloc tokZ).alloc fltZ) := ((Below.refl _ w).alloc (Nat.le_refl _) _).alloc (by simp) _
theorem boxes_later {w w2 : World} (h : Below (w.heap.size + 2) ((w.alloc tokZ).alloc fltZ) w2) : Boxes w2 w.heap.size (w.heap.size + 1) := by
  have hb : w2.heap[w.heap.size]? = some tokZ := by
    rw [h.block _ (by omega), Lib.alloc_old (w.alloc tokZ) _ _ (by simp)]
    exact heap_alloc_new w _
  have hc : w2.heap[w.heap.size + 1]? = some fltZ := by
    rw [h.block _ (by omega)]
    have := heap_alloc_new (w.alloc tokZ) fltZ
    rwa [show (w.alloc tokZ).heap.size = w.heap.size + 1 by simp] at this
  exact ⟨by rw [Lib.cell_of_heap hb]; rfl, by rw [Lib.cell_of_heap hb]; rfl, by rw [Lib.cell_of_heap hb]; rfl, by rw [Lib.cell_of_heap hb]; rfl,
    by rw [Lib.cell_of_heap hc]; rfl, by rw [Lib.cell_of_heap hc]; rfl, fun o => Lib.frozen_of_heap hb o, fun o => Lib.frozen_of_heap hc o⟩
theorem six_below {B : Nat} {w w2 : World} (h : Below B w w2) {b c : Nat} (hb : B ≤ b) (hc : B ≤ c) (q0 q1 q2 q3 q4 q5 : Value) :
    Below B w ((((((w2.setCell ⟨b, 0, none⟩ q0).setCell ⟨b, 1, none⟩ q1).setCell ⟨b, 2, none⟩ q2).setCell ⟨b, 3, none⟩ q3).setCell ⟨c, 0, none⟩ q4).setCell ⟨c, 1, none⟩ q5) :=
  (((((h.setCell (p := ⟨b, 0, none⟩) hb q0).setCell (p := ⟨b, 1, none⟩) hb q1).setCell (p := ⟨b, 2, none⟩) hb q2).setCell (p := ⟨b, 3, none⟩) hb q3).setCell (p := ⟨c, 0, none⟩) hc q4).setCell (p := ⟨c, 1, none⟩) hc q5

theorem ret_tv {a b : TV} (h : a = b) : Ending.returned a.val = .returned b.val := by rw [h]

set_option maxRecDepth 100000 in
set_option maxHeartbeats 1000000 in
theorem wrong_any (why a : Int) (w : World) :
    Calls Tryd.prog 45 #[.int .i64 why, .int .i64 a] w fun e w' => e = .returned (TV.val ⟨0, ⟨#[]⟩, 0, 0, 0, why, a⟩) ∧ Below w.heap.size w w' := by
  have hb := two_made w
  go_enter Tryd.func45, Tryd.ntmps45
  go_wp2_with fail
  refine bodyPost_ret (v := TV.val ⟨0, ⟨#[]⟩, 0, 0, 0, why, a⟩) (by simp [results, Tryd.results45, go_sem]) rfl ?_
  exact ⟨rfl, ((Below.refl _ w).alloc (Nat.le_refl _) _).alloc (by simp) _⟩

theorem clone_any (s : ByteArray) (w : World) (hlim : s.size ≤ 140737488355328) :
    Calls Tryd.prog 46 #[.string s] w fun e w' => e = .returned (.string s) ∧ Below w.heap.size w w' := by
  have HC := hide (Tryd.stringslite_Clone s w (by omega))
  go_enter Tryd.func46, Tryd.ntmps46
  go_wp2_with fail
  refine (unhide HC).mono ?_
  rintro e w' ⟨rfl, hb⟩
  go_wp2_with fail
  go_ret
  exact ⟨rfl, hb⟩

set_option maxRecDepth 100000 in
set_option maxHeartbeats 2000000 in
theorem nameT_any (s : ByteArray) (k : Nat) (hk : k ≤ s.size) (hs : s.size ≤ 65536) (w : World) :
    Calls Tryd.prog 34 #[.string s, .int .i64 (k : Int)] w fun e w' => e = .returned (resT k (nmRes (s.data.toList.drop k))).val ∧ Below w.heap.size w w' := by
  have hb := two_made w
  have hle := nm_le (s.data.toList.drop k)
  rw [len_drop] at hle
  obtain ⟨n, hn⟩ : ∃ n, nmLen (s.data.toList.drop k) = n := ⟨_, rfl⟩
  have HE := hide (show ∀ w, Calls Tryd.prog 29 #[.string s, .int .i64 (k : Int)] w fun e w' => e = .returned (.int .i64 ((k : Int) + (n : Int))) ∧ w' = w by
    intro w; have := nameEnd_any s k hk (by omega) w; rw [hn] at this; simpa using this)
  rw [hn] at hle
  by_cases h64 : 64 < n
  · have H := hide (show resT k (nmRes (s.data.toList.drop k)) = ⟨0, ⟨#[]⟩, 0, 0, 0, 2, (k : Int)⟩ by unfold nmRes; rw [hn, if_pos h64]; rfl)
    clear hn
    go_enter Tryd.func34, Tryd.ntmps34
    go_wp2_with fail
    refine (unhide HE _).mono ?_
    rintro e w1 ⟨rfl, rfl⟩
    go_wp2_with fail
    refine (wrong_any _ _ _).mono ?_
    rintro e w2 ⟨rfl, b2⟩
    have bx := boxes_later (w := w) (w2 := w2) (by simpa using b2)
    have bw : Below w.heap.size w w2 := hb.trans (b2.mono (by simp; omega))
    obtain ⟨x0, x1, x2, x3, y0, y1, fx, fy⟩ := bx
    clear b2 hb
    go_wp2_with fail
    refine bodyPost_ret (v := TV.val ⟨0, ⟨#[]⟩, 0, 0, 0, 2, (k : Int)⟩) (by simp [results, Tryd.results34, go_sem, x0, x1, x2, x3, y0, y1]) rfl ?_
    exact ⟨ret_tv (unhide H).symm, six_below bw (Nat.le_refl _) (Nat.le_succ _) _ _ _ _ _ _⟩
  · have hrun := run_piece s k n (k : Int) ((k : Int) + (n : Int)) rfl (by omega) (by omega)
    obtain ⟨u, hu⟩ : ∃ u, s.extract k (k + n) = u := ⟨_, rfl⟩
    have hul : u.data.toList = (s.data.toList.drop k).take n := by rw [← hu]; exact ext_piece s k n
    have husz : u.size ≤ 140737488355328 := by rw [size_len, hul, List.length_take]; omega
    rw [hu] at hrun
    have H := hide (show resT k (nmRes (s.data.toList.drop k)) = ⟨1, u, 0, (k : Int), (k : Int) + (n : Int), 0, 0⟩ by
      unfold nmRes; rw [hn, if_neg h64, ← hul]; exact resT_tok k 1 u 0 n)
    clear hn hu hul
    go_enter Tryd.func34, Tryd.ntmps34
    go_wp2_with fail
    refine (unhide HE _).mono ?_
    rintro e w1 ⟨rfl, rfl⟩
    go_wp2_with fail
    refine (clone_any u _ husz).mono ?_
    rintro e w2 ⟨rfl, b2⟩
    have bx := boxes_later (w := w) (w2 := w2) (by simpa using b2)
    have bw : Below w.heap.size w w2 := hb.trans (b2.mono (by simp; omega))
    obtain ⟨x0, x1, x2, x3, y0, y1, fx, fy⟩ := bx
    clear b2 hb
    go_wp2_with fail
    refine bodyPost_ret (v := TV.val ⟨1, u, 0, (k : Int), (k : Int) + (n : Int), 0, 0⟩) (by simp [results, Tryd.results34, go_sem, x0, x1, x2, x3, y0, y1]) rfl ?_
    exact ⟨ret_tv (unhide H).symm, six_below bw (Nat.le_refl _) (Nat.le_succ _) _ _ _ _ _ _⟩
end Go.Proofs.YtbekkpfbjafagaaDoor
