/- The document's reader: row at its last level. -/
import Derived.Test.YtfmbpaoapjmdnaaQb12
set_option maxRecDepth 100000
set_option maxHeartbeats 32000000
namespace Go.Proofs.Ytfmbpaoapjmdnaa
section
open Go.RowKit Go.Maps
attribute [local go_sem ↓] Qbk Qbw
theorem Qqb {rb g cap d : Nat} {l : List Tok} (hF : ExC 138 rb g cap l d #[.pointer (some ⟨rb, 0, none⟩)]) : ExC 127 rb g cap l d #[.pointer (some ⟨rb, 0, none⟩), .int .i64 2] := fun w a i y f h => by
 obtain ⟨W1, hW1⟩ : ∃ W1, W1 = (w.alloc (.cells #[.int .i64 0, .int .i64 0, .string ⟨#[]⟩, .slice none 0 0, .int .i64 0] 126)).alloc (.cells #[.string ⟨#[43]⟩, .string ⟨#[45]⟩] 9) := ⟨_, rfl⟩
 have b1 : Below w.heap.size w W1 := by rw [hW1]; exact ((Below.refl _ w).alloc (Nat.le_refl _) _).alloc (by simp) _
 have n1 : W1.heap[w.heap.size]? = some (.cells #[.int .i64 0, .int .i64 0, .string ⟨#[]⟩, .slice none 0 0, .int .i64 0] 126 (0, 0)) := by rw [hW1, Below.heap_alloc _ _ _ (by simp)]; exact heap_alloc_new w _
 have hcl := hF W1 a i y f (h.later b1)
 have hrl := Qab h.box
 have hgl := h.row.lt
 have s1 : W1.heap.size = w.heap.size + 2 := by rw [hW1]; simp
 have H1 := hide (Ya b1 (Ya n1 s1))
 have HW1 := hide hW1
 clear hW1 b1 n1 h hF s1
 go_enter Try.func127, Try.ntmps127
 go_wp2_with fail
 rw [← Qa HW1]
 clear HW1
 refine hcl.mono ?_
 clear hcl
 rintro en w1 ⟨_, a1, i1, y1, f1, rfl, ⟨x1, _, rfl, ⟨ka, kn, kc, rfl⟩, hx1⟩, ⟨ei, ha1, hy1⟩, h1, k1⟩
 rw [ei] at h1
 clear ei
 obtain ⟨b1, n1, s1⟩ := Qa H1
 have hs1 := k1.size
 have z1 := k1.keep n1 (by omega)
 have S5 := Qbc (new := #[.int .i64 x1.kind, .int .i64 x1.num, str x1.txt, .slice ka kn kc, .int .i64 x1.at_]) z1 rfl rfl (by simp [Value.oneCell', str])
 obtain ⟨w6, hw6⟩ : ∃ w6, w6 = w1.setRow w.heap.size #[.int .i64 x1.kind, .int .i64 x1.num, str x1.txt, .slice ka kn kc, .int .i64 x1.at_] := ⟨_, rfl⟩
 rw [← hw6] at S5
 have o6 : ∀ q, q ≠ w.heap.size → w6.heap[q]? = w1.heap[q]? := fun q hq => by rw [hw6]; exact setRow_other _ _ _ _ hq
 have s6 : w6.heap.size = w1.heap.size := by rw [hw6, size_setRow]
 have z6 : w6.heap[w.heap.size]? = some (.cells #[.int .i64 x1.kind, .int .i64 x1.num, str x1.txt, .slice ka kn kc, .int .i64 x1.at_] 126 (0, 0)) := by rw [hw6]; exact setRow_heap _ _ _ _ _ _ z1
 have k4 := (Kp.of_below (rb := rb) b1).trans k1
 have h6 := h1.move (w' := w6) (by omega) (o6 rb (by omega)) (o6 g (by omega))
 have k6 : Kp rb w w6 := ⟨by rw [hw6]; exact k4.os, by rw [hw6]; exact k4.tape, by rw [hw6]; exact k4.output, by rw [s6]; exact k4.size, fun q hq hn => (o6 q (by omega)).trans (k4.block q hq hn)⟩
 have hx6 : ExS (fun b => w.heap.size ≤ b) w6 [.int .i64 x1.kind, .int .i64 x1.num, str x1.txt, .slice ka kn kc, .int .i64 x1.at_] x1 := by
  have q1 := Qae.same _ _ w6 _ _ hx1 (by omega) (fun b hb hl => o6 b (by omega))
  exact Qae.mono _ _ _ _ _ q1 (fun b _ hb => by omega)
 have HF := hide (Ya h6 (Ya k6 (Ya z6 (Ya hx6 (Ya ha1 hy1)))))
 clear h1 k1 hx1 ha1 hy1 b1 n1 s1 hs1 z1 hw6 o6 s6 z6 k4 h6 k6 hx6
 go_wp2_with fail
 obtain ⟨h6, k6, z6, hx6, ha1, hy1⟩ := Qa HF
 obtain ⟨z_0, z_1, z_2, z_3, z_4, zf⟩ := ex5 z6
 refine bodyPost_ret (v := .agg #[.int .i64 x1.kind, .int .i64 x1.num, str x1.txt, .slice ka kn kc, .int .i64 x1.at_]) (by simp [results, Try.results127, go_sem, z_0, z_1, z_2, z_3, z_4]) rfl ?_
 exact ⟨_, _, _, _, _, rfl, ⟨x1, _, rfl, ⟨_, _, _, rfl⟩, hx6⟩, ⟨rfl, ha1, hy1⟩, h6, k6⟩
theorem Qqc {rb g cap d : Nat} {l : List Tok} (hF : ExC 138 rb g cap l d #[.pointer (some ⟨rb, 0, none⟩)]) : ExC 127 rb g cap l d #[.pointer (some ⟨rb, 0, none⟩), .int .i64 0] := Qq (Qqa (Qqb hF))
theorem Qny {rb g cap : Nat} {l : List Tok} (hO : ∀ d, d < 64 → ExC 116 rb g cap l d #[.pointer (some ⟨rb, 0, none⟩)] → ExC 138 rb g cap l d #[.pointer (some ⟨rb, 0, none⟩)] → ExC 149 rb g cap l d #[.pointer (some ⟨rb, 0, none⟩)]) :
  ∀ n d, d + n = 63 → ExC 116 rb g cap l d #[.pointer (some ⟨rb, 0, none⟩)] ∧ ExC 138 rb g cap l d #[.pointer (some ⟨rb, 0, none⟩)]
 | 0, d, hd => ⟨fun _ _ _ _ _ h => Qkp h (by omega) (fun h32 => by omega), fun _ _ _ _ _ h => Qgz h (by omega) (fun h32 => by omega)⟩
 | n + 1, d, hd => by
  obtain ⟨hE, hF⟩ := Qny hO n (d + 1) (by omega)
  exact ⟨fun _ _ _ _ _ h => Qkp h (by omega) (fun _ => Qqc hF), fun _ _ _ _ _ h => Qgz h (by omega) (fun _ => hO (d + 1) (by omega) hE hF)⟩
end
end Go.Proofs.Ytfmbpaoapjmdnaa
