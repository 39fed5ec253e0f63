/- The document's reader: the program grows. -/
import Derived.Test.YtfmbpaoapjmdnaaQb15
set_option maxRecDepth 100000
set_option maxHeartbeats 32000000
namespace Go.Proofs.Ytfmbpaoapjmdnaa
section
open Go.RowKit Go.Maps
theorem P5.radd0 {rb tg tcap ta td ti pb base : Nat} {ty tf : Int} {wr w2 : World} {v0 v1 v2 v3 v4 : Value} {p : Pg} {tl : List Tok} (h : P5 pb base wr v0 v1 v2 v3 v4 p) (hb : base ≤ wr.heap.size) (hrp : rb < pb) (k2 : Kp rb wr w2) (hR : Rr rb tg tcap tl w2 ta td ti ty tf) (htg : tg < base) (htp : tg ≠ pb) {x : Typ} {cs : List Value} (hl : cs.length = 4) (h1 : ∀ c ∈ cs, c.oneCell' = true) {S : Nat → Prop} (hx : PTy S w2 cs x) (hS : ∀ b, S b → wr.heap.size ≤ b) (hf : p.types.length ≤ 65536) (zb : Nat) (hzb : w2.heap[zb]? = some (.cells cs.toArray 68 (0, 0))) :
  ∃ r w8, (Builtin.append_ #[22, 22] 22 #[v0, .slice (some ⟨zb, 0, none⟩) 1 1]).run Try.prog w2 = .ok r w8 ∧ (∃ g c, r = .slice (some ⟨g, 0, none⟩) (p.types.length + 1) c ∧ base ≤ g ∧ g < w8.heap.size) ∧ w8.heap[pb]? = some (.cells #[v0, v1, v2, v3, v4] 28 (0, 0)) ∧
   P5 pb base (w8.setCell ⟨pb, 0, none⟩ r) r v1 v2 v3 v4 (.mk (p.types ++ [x]) p.decls p.comps p.inits p.clauses) ∧ Rr rb tg tcap tl (w8.setCell ⟨pb, 0, none⟩ r) ta td ti ty tf ∧ KB rb pb base wr (w8.setCell ⟨pb, 0, none⟩ r) := by
 obtain ⟨i0, hi, hz, hsz, hby⟩ := info50
 have ht : Try.prog.underlying 22 = some (.slice 68) := by kernel_rfl
 have hlt := h.lt
 have hs2 := k2.size
 have hown : ∀ b, some b = v0.ownBlock → base ≤ b ∧ b < wr.heap.size := h.r0.lt
 have hrow : Row PTy 4 68 base (fun b => P5S base v0 v1 v2 v3 v4 b ∧ b < w2.heap.size) w2 v0 p.types := h.r0.move Qbn k2.size (fun b hb hl _ => k2.block b hl (by omega)) (fun b hb => hb.1) (fun b hl hs => ⟨hs, by omega⟩)
 have hx2 : PTy (fun b => P5S base v0 v1 v2 v3 v4 b ∧ b < w2.heap.size) w2 cs x := Qbn.mono _ _ _ _ _ hx (fun b hl hs => by
  have hb' := hS b hs
  exact ⟨⟨by omega, fun e => by have := h.r0.lt b e; omega, fun e => by have := h.r1.lt b e; omega, fun e => by have := h.r2.lt b e; omega, fun e => by have := h.r3.lt b e; omega, fun e => by have := h.r4.lt b e; omega⟩, hl⟩)
 obtain ⟨r, w8, hr, g8, a8, ⟨g, c, er⟩, hrow8⟩ := hrow.app Qbn ht hi hz hsz hby rfl (by decide) (by decide) (fun b hs => hs.1.2.1) hl h1 hx2 (by omega) hf zb hzb
 have hs8 := g8.size
 have hsame : ∀ b, b < w2.heap.size → some b ≠ v0.ownBlock → w8.heap[b]? = w2.heap[b]? := fun b hb hn => g8.block b hb hn
 have hpb : pb < wr.heap.size := Qab h.box
 have box8 : w8.heap[pb]? = some (.cells #[v0, v1, v2, v3, v4] 28 (0, 0)) := (hsame pb (by omega) (fun e => by have := (hown pb e).1; omega)).trans (k2.keep h.box (by omega))
 have hrn : ∀ b, some b = r.ownBlock → some b = v0.ownBlock ∨ w2.heap.size ≤ b := fun b e => by
  rcases a8 with e2 | e2
  · exact .inl (e.trans e2)
  rw [e2] at e
  simp only [Option.some.injEq] at e
  exact .inr (by omega)
 have hset : ∀ b, b ≠ pb → (w8.setCell ⟨pb, 0, none⟩ r).heap[b]? = w8.heap[b]? := fun b hb => hpS hb
 have hsz8 : (w8.setCell ⟨pb, 0, none⟩ r).heap.size = w8.heap.size := by simp [World.setCell]
 have hSn : ∀ b, b < w2.heap.size → P5S base v0 v1 v2 v3 v4 b → P5S base r v1 v2 v3 v4 b := fun b hb hs => by
  obtain ⟨s, s0, s1, s2, s3, s4⟩ := hs
  exact ⟨s, (fun e => by rcases hrn b e with e | e; exact s0 e; omega), s1, s2, s3, s4⟩
 have hob : ∀ b, base ≤ b → b < w2.heap.size → some b ≠ v0.ownBlock → b ≠ rb → (w8.setCell ⟨pb, 0, none⟩ r).heap[b]? = w2.heap[b]? := fun b hb hl hn _ => (hset b (by omega)).trans (hsame b hl hn)
 have hapn : ∀ v, Apt v v0 → (∀ b, some b = v.ownBlock → b < w2.heap.size) → Apt v r := fun v ha hv b e1 e2 => by
  rcases hrn b e2 with e | e
  · exact ha b e1 e
  · have := hv b e1; omega
 have hbx : (w8.setCell ⟨pb, 0, none⟩ r).heap[pb]? = some (.cells #[r, v1, v2, v3, v4] 28 (0, 0)) := (Qah box8 0 r).trans rfl
 have hgl : base ≤ g ∧ g < w8.heap.size := hrow8.lt g (by rw [er]; rfl)
 refine ⟨r, w8, hr, ⟨g, c, er, hgl⟩, box8, ⟨hbx, h.lt, ?_, ?_, ?_, ?_, ?_, (hapn v1 h.a01.symm (fun b e => by have := h.r1.lt b e; omega)).symm, (hapn v2 h.a02.symm (fun b e => by have := h.r2.lt b e; omega)).symm, (hapn v3 h.a03.symm (fun b e => by have := h.r3.lt b e; omega)).symm, (hapn v4 h.a04.symm (fun b e => by have := h.r4.lt b e; omega)).symm, h.a12, h.a13, h.a14, h.a23, h.a24, h.a34⟩, ?_, ?_⟩
 · exact hrow8.move Qbn (by omega) (fun b hb _ _ => hset b (by omega)) (fun b hs => hs.1.1) (fun b _ hs => hSn b hs.2 hs.1)
 ·
  refine (h.r1.move Qbr k2.size (S' := fun b => P5S base v0 v1 v2 v3 v4 b ∧ b < w2.heap.size) (fun b hb hl _ => k2.block b hl (by omega)) (fun b hb => hb.1) (fun b hl hs => ⟨hs, by omega⟩)).move Qbr (by omega) (fun b hb hl ho => ?_) (fun b hs => hs.1.1) (fun b _ hs => hSn b hs.2 hs.1)
  refine hob b hb hl ?_ (by omega)
  rcases ho with hs | e
  · exact hs.1.2.1
  · exact h.a01.symm b e
 ·
  refine (h.r2.move Qce k2.size (S' := fun b => P5S base v0 v1 v2 v3 v4 b ∧ b < w2.heap.size) (fun b hb hl _ => k2.block b hl (by omega)) (fun b hb => hb.1) (fun b hl hs => ⟨hs, by omega⟩)).move Qce (by omega) (fun b hb hl ho => ?_) (fun b hs => hs.1.1) (fun b _ hs => hSn b hs.2 hs.1)
  refine hob b hb hl ?_ (by omega)
  rcases ho with hs | e
  · exact hs.1.2.1
  · exact h.a02.symm b e
 ·
  refine (h.r3.move Qbx k2.size (S' := fun b => P5S base v0 v1 v2 v3 v4 b ∧ b < w2.heap.size) (fun b hb hl _ => k2.block b hl (by omega)) (fun b hb => hb.1) (fun b hl hs => ⟨hs, by omega⟩)).move Qbx (by omega) (fun b hb hl ho => ?_) (fun b hs => hs.1.1) (fun b _ hs => hSn b hs.2 hs.1)
  refine hob b hb hl ?_ (by omega)
  rcases ho with hs | e
  · exact hs.1.2.1
  · exact h.a03.symm b e
 ·
  refine (h.r4.move Qbq k2.size (S' := fun b => P5S base v0 v1 v2 v3 v4 b ∧ b < w2.heap.size) (fun b hb hl _ => k2.block b hl (by omega)) (fun b hb => hb.1) (fun b hl hs => ⟨hs, by omega⟩)).move Qbq (by omega) (fun b hb hl ho => ?_) (fun b hs => hs.1.1) (fun b _ hs => hSn b hs.2 hs.1)
  refine hob b hb hl ?_ (by omega)
  rcases ho with hs | e
  · exact hs.1.2.1
  · exact h.a04.symm b e
 ·
  have hk : ∀ b, b < base → b ≠ pb → b < w2.heap.size → (w8.setCell ⟨pb, 0, none⟩ r).heap[b]? = w2.heap[b]? := fun b hb hn hl => (hset b hn).trans (hsame b hl (fun e => by have := (hown b e).1; omega))
  exact hR.move (by omega) (hk rb (by omega) (by omega) (Qab hR.box)) (hk tg htg htp hR.row.lt)
 have hs := (Below.refl 0 w8).setCell (p := ⟨pb, 0, none⟩) (Nat.zero_le _) r
 refine ⟨hs.os.trans (g8.os.trans k2.os), hs.tape.trans (g8.tape.trans k2.tape), hs.output.trans (g8.output.trans k2.output), by omega, fun b hb hn hm => ?_⟩
 rw [hset b hm, hsame b (by omega) (fun e => by have := (hown b e).1; omega)]
 exact k2.block b (by omega) hn
theorem P5.radd1 {rb tg tcap ta td ti pb base : Nat} {ty tf : Int} {wr w2 : World} {v0 v1 v2 v3 v4 : Value} {p : Pg} {tl : List Tok} (h : P5 pb base wr v0 v1 v2 v3 v4 p) (hb : base ≤ wr.heap.size) (hrp : rb < pb) (k2 : Kp rb wr w2) (hR : Rr rb tg tcap tl w2 ta td ti ty tf) (htg : tg < base) (htp : tg ≠ pb) {x : Dcl} {cs : List Value} (hl : cs.length = 5) (h1 : ∀ c ∈ cs, c.oneCell' = true) {S : Nat → Prop} (hx : PDc S w2 cs x) (hS : ∀ b, S b → wr.heap.size ≤ b) (hf : p.decls.length ≤ 65536) (zb : Nat) (hzb : w2.heap[zb]? = some (.cells cs.toArray 43 (0, 0))) :
  ∃ r w8, (Builtin.append_ #[23, 23] 23 #[v1, .slice (some ⟨zb, 0, none⟩) 1 1]).run Try.prog w2 = .ok r w8 ∧ (∃ g c, r = .slice (some ⟨g, 0, none⟩) (p.decls.length + 1) c ∧ base ≤ g ∧ g < w8.heap.size) ∧ w8.heap[pb]? = some (.cells #[v0, v1, v2, v3, v4] 28 (0, 0)) ∧
   P5 pb base (w8.setCell ⟨pb, 1, none⟩ r) v0 r v2 v3 v4 (.mk p.types (p.decls ++ [x]) p.comps p.inits p.clauses) ∧ Rr rb tg tcap tl (w8.setCell ⟨pb, 1, none⟩ r) ta td ti ty tf ∧ KB rb pb base wr (w8.setCell ⟨pb, 1, none⟩ r) := by
 obtain ⟨i0, hi, hz, hsz, hby⟩ := info51
 have ht : Try.prog.underlying 23 = some (.slice 43) := by kernel_rfl
 have hlt := h.lt
 have hs2 := k2.size
 have hown : ∀ b, some b = v1.ownBlock → base ≤ b ∧ b < wr.heap.size := h.r1.lt
 have hrow : Row PDc 5 43 base (fun b => P5S base v0 v1 v2 v3 v4 b ∧ b < w2.heap.size) w2 v1 p.decls := h.r1.move Qbr k2.size (fun b hb hl _ => k2.block b hl (by omega)) (fun b hb => hb.1) (fun b hl hs => ⟨hs, by omega⟩)
 have hx2 : PDc (fun b => P5S base v0 v1 v2 v3 v4 b ∧ b < w2.heap.size) w2 cs x := Qbr.mono _ _ _ _ _ hx (fun b hl hs => by
  have hb' := hS b hs
  exact ⟨⟨by omega, fun e => by have := h.r0.lt b e; omega, fun e => by have := h.r1.lt b e; omega, fun e => by have := h.r2.lt b e; omega, fun e => by have := h.r3.lt b e; omega, fun e => by have := h.r4.lt b e; omega⟩, hl⟩)
 obtain ⟨r, w8, hr, g8, a8, ⟨g, c, er⟩, hrow8⟩ := hrow.app Qbr ht hi hz hsz hby rfl (by decide) (by decide) (fun b hs => hs.1.2.2.1) hl h1 hx2 (by omega) hf zb hzb
 have hs8 := g8.size
 have hsame : ∀ b, b < w2.heap.size → some b ≠ v1.ownBlock → w8.heap[b]? = w2.heap[b]? := fun b hb hn => g8.block b hb hn
 have hpb : pb < wr.heap.size := Qab h.box
 have box8 : w8.heap[pb]? = some (.cells #[v0, v1, v2, v3, v4] 28 (0, 0)) := (hsame pb (by omega) (fun e => by have := (hown pb e).1; omega)).trans (k2.keep h.box (by omega))
 have hrn : ∀ b, some b = r.ownBlock → some b = v1.ownBlock ∨ w2.heap.size ≤ b := fun b e => by
  rcases a8 with e2 | e2
  · exact .inl (e.trans e2)
  rw [e2] at e
  simp only [Option.some.injEq] at e
  exact .inr (by omega)
 have hset : ∀ b, b ≠ pb → (w8.setCell ⟨pb, 1, none⟩ r).heap[b]? = w8.heap[b]? := fun b hb => hpS hb
 have hsz8 : (w8.setCell ⟨pb, 1, none⟩ r).heap.size = w8.heap.size := by simp [World.setCell]
 have hSn : ∀ b, b < w2.heap.size → P5S base v0 v1 v2 v3 v4 b → P5S base v0 r v2 v3 v4 b := fun b hb hs => by
  obtain ⟨s, s0, s1, s2, s3, s4⟩ := hs
  exact ⟨s, s0, (fun e => by rcases hrn b e with e | e; exact s1 e; omega), s2, s3, s4⟩
 have hob : ∀ b, base ≤ b → b < w2.heap.size → some b ≠ v1.ownBlock → b ≠ rb → (w8.setCell ⟨pb, 1, none⟩ r).heap[b]? = w2.heap[b]? := fun b hb hl hn _ => (hset b (by omega)).trans (hsame b hl hn)
 have hapn : ∀ v, Apt v v1 → (∀ b, some b = v.ownBlock → b < w2.heap.size) → Apt v r := fun v ha hv b e1 e2 => by
  rcases hrn b e2 with e | e
  · exact ha b e1 e
  · have := hv b e1; omega
 have hbx : (w8.setCell ⟨pb, 1, none⟩ r).heap[pb]? = some (.cells #[v0, r, v2, v3, v4] 28 (0, 0)) := (Qah box8 1 r).trans rfl
 have hgl : base ≤ g ∧ g < w8.heap.size := hrow8.lt g (by rw [er]; rfl)
 refine ⟨r, w8, hr, ⟨g, c, er, hgl⟩, box8, ⟨hbx, h.lt, ?_, ?_, ?_, ?_, ?_, hapn v0 h.a01 (fun b e => by have := h.r0.lt b e; omega), h.a02, h.a03, h.a04, (hapn v2 h.a12.symm (fun b e => by have := h.r2.lt b e; omega)).symm, (hapn v3 h.a13.symm (fun b e => by have := h.r3.lt b e; omega)).symm, (hapn v4 h.a14.symm (fun b e => by have := h.r4.lt b e; omega)).symm, h.a23, h.a24, h.a34⟩, ?_, ?_⟩
 ·
  refine (h.r0.move Qbn k2.size (S' := fun b => P5S base v0 v1 v2 v3 v4 b ∧ b < w2.heap.size) (fun b hb hl _ => k2.block b hl (by omega)) (fun b hb => hb.1) (fun b hl hs => ⟨hs, by omega⟩)).move Qbn (by omega) (fun b hb hl ho => ?_) (fun b hs => hs.1.1) (fun b _ hs => hSn b hs.2 hs.1)
  refine hob b hb hl ?_ (by omega)
  rcases ho with hs | e
  · exact hs.1.2.2.1
  · exact h.a01 b e
 · exact hrow8.move Qbr (by omega) (fun b hb _ _ => hset b (by omega)) (fun b hs => hs.1.1) (fun b _ hs => hSn b hs.2 hs.1)
 ·
  refine (h.r2.move Qce k2.size (S' := fun b => P5S base v0 v1 v2 v3 v4 b ∧ b < w2.heap.size) (fun b hb hl _ => k2.block b hl (by omega)) (fun b hb => hb.1) (fun b hl hs => ⟨hs, by omega⟩)).move Qce (by omega) (fun b hb hl ho => ?_) (fun b hs => hs.1.1) (fun b _ hs => hSn b hs.2 hs.1)
  refine hob b hb hl ?_ (by omega)
  rcases ho with hs | e
  · exact hs.1.2.2.1
  · exact h.a12.symm b e
 ·
  refine (h.r3.move Qbx k2.size (S' := fun b => P5S base v0 v1 v2 v3 v4 b ∧ b < w2.heap.size) (fun b hb hl _ => k2.block b hl (by omega)) (fun b hb => hb.1) (fun b hl hs => ⟨hs, by omega⟩)).move Qbx (by omega) (fun b hb hl ho => ?_) (fun b hs => hs.1.1) (fun b _ hs => hSn b hs.2 hs.1)
  refine hob b hb hl ?_ (by omega)
  rcases ho with hs | e
  · exact hs.1.2.2.1
  · exact h.a13.symm b e
 ·
  refine (h.r4.move Qbq k2.size (S' := fun b => P5S base v0 v1 v2 v3 v4 b ∧ b < w2.heap.size) (fun b hb hl _ => k2.block b hl (by omega)) (fun b hb => hb.1) (fun b hl hs => ⟨hs, by omega⟩)).move Qbq (by omega) (fun b hb hl ho => ?_) (fun b hs => hs.1.1) (fun b _ hs => hSn b hs.2 hs.1)
  refine hob b hb hl ?_ (by omega)
  rcases ho with hs | e
  · exact hs.1.2.2.1
  · exact h.a14.symm b e
 ·
  have hk : ∀ b, b < base → b ≠ pb → b < w2.heap.size → (w8.setCell ⟨pb, 1, none⟩ r).heap[b]? = w2.heap[b]? := fun b hb hn hl => (hset b hn).trans (hsame b hl (fun e => by have := (hown b e).1; omega))
  exact hR.move (by omega) (hk rb (by omega) (by omega) (Qab hR.box)) (hk tg htg htp hR.row.lt)
 have hs := (Below.refl 0 w8).setCell (p := ⟨pb, 1, none⟩) (Nat.zero_le _) r
 refine ⟨hs.os.trans (g8.os.trans k2.os), hs.tape.trans (g8.tape.trans k2.tape), hs.output.trans (g8.output.trans k2.output), by omega, fun b hb hn hm => ?_⟩
 rw [hset b hm, hsame b (by omega) (fun e => by have := (hown b e).1; omega)]
 exact k2.block b (by omega) hn
theorem P5.radd2 {rb tg tcap ta td ti pb base : Nat} {ty tf : Int} {wr w2 : World} {v0 v1 v2 v3 v4 : Value} {p : Pg} {tl : List Tok} (h : P5 pb base wr v0 v1 v2 v3 v4 p) (hb : base ≤ wr.heap.size) (hrp : rb < pb) (k2 : Kp rb wr w2) (hR : Rr rb tg tcap tl w2 ta td ti ty tf) (htg : tg < base) (htp : tg ≠ pb) {x : Cp} {cs : List Value} (hl : cs.length = 8) (h1 : ∀ c ∈ cs, c.oneCell' = true) {S : Nat → Prop} (hx : PCo S w2 cs x) (hS : ∀ b, S b → wr.heap.size ≤ b) (hf : p.comps.length ≤ 65536) (zb : Nat) (hzb : w2.heap[zb]? = some (.cells cs.toArray 40 (0, 0))) :
  ∃ r w8, (Builtin.append_ #[24, 24] 24 #[v2, .slice (some ⟨zb, 0, none⟩) 1 1]).run Try.prog w2 = .ok r w8 ∧ (∃ g c, r = .slice (some ⟨g, 0, none⟩) (p.comps.length + 1) c ∧ base ≤ g ∧ g < w8.heap.size) ∧ w8.heap[pb]? = some (.cells #[v0, v1, v2, v3, v4] 28 (0, 0)) ∧
   P5 pb base (w8.setCell ⟨pb, 2, none⟩ r) v0 v1 r v3 v4 (.mk p.types p.decls (p.comps ++ [x]) p.inits p.clauses) ∧ Rr rb tg tcap tl (w8.setCell ⟨pb, 2, none⟩ r) ta td ti ty tf ∧ KB rb pb base wr (w8.setCell ⟨pb, 2, none⟩ r) ∧ (∀ b, wr.heap.size ≤ b → b < w2.heap.size → w8.heap[b]? = w2.heap[b]? ∧ some b ≠ r.ownBlock) ∧ w2.heap.size ≤ w8.heap.size := by
 obtain ⟨i0, hi, hz, hsz, hby⟩ := info52
 have ht : Try.prog.underlying 24 = some (.slice 40) := by kernel_rfl
 have hlt := h.lt
 have hs2 := k2.size
 have hown : ∀ b, some b = v2.ownBlock → base ≤ b ∧ b < wr.heap.size := h.r2.lt
 have hrow : Row PCo 8 40 base (fun b => P5S base v0 v1 v2 v3 v4 b ∧ b < w2.heap.size) w2 v2 p.comps := h.r2.move Qce k2.size (fun b hb hl _ => k2.block b hl (by omega)) (fun b hb => hb.1) (fun b hl hs => ⟨hs, by omega⟩)
 have hx2 : PCo (fun b => P5S base v0 v1 v2 v3 v4 b ∧ b < w2.heap.size) w2 cs x := Qce.mono _ _ _ _ _ hx (fun b hl hs => by
  have hb' := hS b hs
  exact ⟨⟨by omega, fun e => by have := h.r0.lt b e; omega, fun e => by have := h.r1.lt b e; omega, fun e => by have := h.r2.lt b e; omega, fun e => by have := h.r3.lt b e; omega, fun e => by have := h.r4.lt b e; omega⟩, hl⟩)
 obtain ⟨r, w8, hr, g8, a8, ⟨g, c, er⟩, hrow8⟩ := hrow.app Qce ht hi hz hsz hby rfl (by decide) (by decide) (fun b hs => hs.1.2.2.2.1) hl h1 hx2 (by omega) hf zb hzb
 have hs8 := g8.size
 have hsame : ∀ b, b < w2.heap.size → some b ≠ v2.ownBlock → w8.heap[b]? = w2.heap[b]? := fun b hb hn => g8.block b hb hn
 have hpb : pb < wr.heap.size := Qab h.box
 have box8 : w8.heap[pb]? = some (.cells #[v0, v1, v2, v3, v4] 28 (0, 0)) := (hsame pb (by omega) (fun e => by have := (hown pb e).1; omega)).trans (k2.keep h.box (by omega))
 have hrn : ∀ b, some b = r.ownBlock → some b = v2.ownBlock ∨ w2.heap.size ≤ b := fun b e => by
  rcases a8 with e2 | e2
  · exact .inl (e.trans e2)
  rw [e2] at e
  simp only [Option.some.injEq] at e
  exact .inr (by omega)
 have hset : ∀ b, b ≠ pb → (w8.setCell ⟨pb, 2, none⟩ r).heap[b]? = w8.heap[b]? := fun b hb => hpS hb
 have hsz8 : (w8.setCell ⟨pb, 2, none⟩ r).heap.size = w8.heap.size := by simp [World.setCell]
 have hSn : ∀ b, b < w2.heap.size → P5S base v0 v1 v2 v3 v4 b → P5S base v0 v1 r v3 v4 b := fun b hb hs => by
  obtain ⟨s, s0, s1, s2, s3, s4⟩ := hs
  exact ⟨s, s0, s1, (fun e => by rcases hrn b e with e | e; exact s2 e; omega), s3, s4⟩
 have hob : ∀ b, base ≤ b → b < w2.heap.size → some b ≠ v2.ownBlock → b ≠ rb → (w8.setCell ⟨pb, 2, none⟩ r).heap[b]? = w2.heap[b]? := fun b hb hl hn _ => (hset b (by omega)).trans (hsame b hl hn)
 have hapn : ∀ v, Apt v v2 → (∀ b, some b = v.ownBlock → b < w2.heap.size) → Apt v r := fun v ha hv b e1 e2 => by
  rcases hrn b e2 with e | e
  · exact ha b e1 e
  · have := hv b e1; omega
 have hbx : (w8.setCell ⟨pb, 2, none⟩ r).heap[pb]? = some (.cells #[v0, v1, r, v3, v4] 28 (0, 0)) := (Qah box8 2 r).trans rfl
 have hgl : base ≤ g ∧ g < w8.heap.size := hrow8.lt g (by rw [er]; rfl)
 refine ⟨r, w8, hr, ⟨g, c, er, hgl⟩, box8, ⟨hbx, h.lt, ?_, ?_, ?_, ?_, ?_, h.a01, hapn v0 h.a02 (fun b e => by have := h.r0.lt b e; omega), h.a03, h.a04, hapn v1 h.a12 (fun b e => by have := h.r1.lt b e; omega), h.a13, h.a14, (hapn v3 h.a23.symm (fun b e => by have := h.r3.lt b e; omega)).symm, (hapn v4 h.a24.symm (fun b e => by have := h.r4.lt b e; omega)).symm, h.a34⟩, ?_, ?_, fun b h1 h2 => ⟨hsame b h2 (fun e => by have := (hown b e).2; omega), fun e => by rcases hrn b e with e | e; have := (hown b e).2; omega; omega⟩, hs8⟩
 ·
  refine (h.r0.move Qbn k2.size (S' := fun b => P5S base v0 v1 v2 v3 v4 b ∧ b < w2.heap.size) (fun b hb hl _ => k2.block b hl (by omega)) (fun b hb => hb.1) (fun b hl hs => ⟨hs, by omega⟩)).move Qbn (by omega) (fun b hb hl ho => ?_) (fun b hs => hs.1.1) (fun b _ hs => hSn b hs.2 hs.1)
  refine hob b hb hl ?_ (by omega)
  rcases ho with hs | e
  · exact hs.1.2.2.2.1
  · exact h.a02 b e
 ·
  refine (h.r1.move Qbr k2.size (S' := fun b => P5S base v0 v1 v2 v3 v4 b ∧ b < w2.heap.size) (fun b hb hl _ => k2.block b hl (by omega)) (fun b hb => hb.1) (fun b hl hs => ⟨hs, by omega⟩)).move Qbr (by omega) (fun b hb hl ho => ?_) (fun b hs => hs.1.1) (fun b _ hs => hSn b hs.2 hs.1)
  refine hob b hb hl ?_ (by omega)
  rcases ho with hs | e
  · exact hs.1.2.2.2.1
  · exact h.a12 b e
 · exact hrow8.move Qce (by omega) (fun b hb _ _ => hset b (by omega)) (fun b hs => hs.1.1) (fun b _ hs => hSn b hs.2 hs.1)
 ·
  refine (h.r3.move Qbx k2.size (S' := fun b => P5S base v0 v1 v2 v3 v4 b ∧ b < w2.heap.size) (fun b hb hl _ => k2.block b hl (by omega)) (fun b hb => hb.1) (fun b hl hs => ⟨hs, by omega⟩)).move Qbx (by omega) (fun b hb hl ho => ?_) (fun b hs => hs.1.1) (fun b _ hs => hSn b hs.2 hs.1)
  refine hob b hb hl ?_ (by omega)
  rcases ho with hs | e
  · exact hs.1.2.2.2.1
  · exact h.a23.symm b e
 ·
  refine (h.r4.move Qbq k2.size (S' := fun b => P5S base v0 v1 v2 v3 v4 b ∧ b < w2.heap.size) (fun b hb hl _ => k2.block b hl (by omega)) (fun b hb => hb.1) (fun b hl hs => ⟨hs, by omega⟩)).move Qbq (by omega) (fun b hb hl ho => ?_) (fun b hs => hs.1.1) (fun b _ hs => hSn b hs.2 hs.1)
  refine hob b hb hl ?_ (by omega)
  rcases ho with hs | e
  · exact hs.1.2.2.2.1
  · exact h.a24.symm b e
 ·
  have hk : ∀ b, b < base → b ≠ pb → b < w2.heap.size → (w8.setCell ⟨pb, 2, none⟩ r).heap[b]? = w2.heap[b]? := fun b hb hn hl => (hset b hn).trans (hsame b hl (fun e => by have := (hown b e).1; omega))
  exact hR.move (by omega) (hk rb (by omega) (by omega) (Qab hR.box)) (hk tg htg htp hR.row.lt)
 have hs := (Below.refl 0 w8).setCell (p := ⟨pb, 2, none⟩) (Nat.zero_le _) r
 refine ⟨hs.os.trans (g8.os.trans k2.os), hs.tape.trans (g8.tape.trans k2.tape), hs.output.trans (g8.output.trans k2.output), by omega, fun b hb hn hm => ?_⟩
 rw [hset b hm, hsame b (by omega) (fun e => by have := (hown b e).1; omega)]
 exact k2.block b (by omega) hn
theorem P5.radd3 {rb tg tcap ta td ti pb base : Nat} {ty tf : Int} {wr w2 : World} {v0 v1 v2 v3 v4 : Value} {p : Pg} {tl : List Tok} (h : P5 pb base wr v0 v1 v2 v3 v4 p) (hb : base ≤ wr.heap.size) (hrp : rb < pb) (k2 : Kp rb wr w2) (hR : Rr rb tg tcap tl w2 ta td ti ty tf) (htg : tg < base) (htp : tg ≠ pb) {x : Ini} {cs : List Value} (hl : cs.length = 3) (h1 : ∀ c ∈ cs, c.oneCell' = true) {S : Nat → Prop} (hx : PIn S w2 cs x) (hS : ∀ b, S b → wr.heap.size ≤ b) (hf : p.inits.length ≤ 65536) (zb : Nat) (hzb : w2.heap[zb]? = some (.cells cs.toArray 45 (0, 0))) :
  ∃ r w8, (Builtin.append_ #[25, 25] 25 #[v3, .slice (some ⟨zb, 0, none⟩) 1 1]).run Try.prog w2 = .ok r w8 ∧ (∃ g c, r = .slice (some ⟨g, 0, none⟩) (p.inits.length + 1) c ∧ base ≤ g ∧ g < w8.heap.size) ∧ w8.heap[pb]? = some (.cells #[v0, v1, v2, v3, v4] 28 (0, 0)) ∧
   P5 pb base (w8.setCell ⟨pb, 3, none⟩ r) v0 v1 v2 r v4 (.mk p.types p.decls p.comps (p.inits ++ [x]) p.clauses) ∧ Rr rb tg tcap tl (w8.setCell ⟨pb, 3, none⟩ r) ta td ti ty tf ∧ KB rb pb base wr (w8.setCell ⟨pb, 3, none⟩ r) := by
 obtain ⟨i0, hi, hz, hsz, hby⟩ := info53
 have ht : Try.prog.underlying 25 = some (.slice 45) := by kernel_rfl
 have hlt := h.lt
 have hs2 := k2.size
 have hown : ∀ b, some b = v3.ownBlock → base ≤ b ∧ b < wr.heap.size := h.r3.lt
 have hrow : Row PIn 3 45 base (fun b => P5S base v0 v1 v2 v3 v4 b ∧ b < w2.heap.size) w2 v3 p.inits := h.r3.move Qbx k2.size (fun b hb hl _ => k2.block b hl (by omega)) (fun b hb => hb.1) (fun b hl hs => ⟨hs, by omega⟩)
 have hx2 : PIn (fun b => P5S base v0 v1 v2 v3 v4 b ∧ b < w2.heap.size) w2 cs x := Qbx.mono _ _ _ _ _ hx (fun b hl hs => by
  have hb' := hS b hs
  exact ⟨⟨by omega, fun e => by have := h.r0.lt b e; omega, fun e => by have := h.r1.lt b e; omega, fun e => by have := h.r2.lt b e; omega, fun e => by have := h.r3.lt b e; omega, fun e => by have := h.r4.lt b e; omega⟩, hl⟩)
 obtain ⟨r, w8, hr, g8, a8, ⟨g, c, er⟩, hrow8⟩ := hrow.app Qbx ht hi hz hsz hby rfl (by decide) (by decide) (fun b hs => hs.1.2.2.2.2.1) hl h1 hx2 (by omega) hf zb hzb
 have hs8 := g8.size
 have hsame : ∀ b, b < w2.heap.size → some b ≠ v3.ownBlock → w8.heap[b]? = w2.heap[b]? := fun b hb hn => g8.block b hb hn
 have hpb : pb < wr.heap.size := Qab h.box
 have box8 : w8.heap[pb]? = some (.cells #[v0, v1, v2, v3, v4] 28 (0, 0)) := (hsame pb (by omega) (fun e => by have := (hown pb e).1; omega)).trans (k2.keep h.box (by omega))
 have hrn : ∀ b, some b = r.ownBlock → some b = v3.ownBlock ∨ w2.heap.size ≤ b := fun b e => by
  rcases a8 with e2 | e2
  · exact .inl (e.trans e2)
  rw [e2] at e
  simp only [Option.some.injEq] at e
  exact .inr (by omega)
 have hset : ∀ b, b ≠ pb → (w8.setCell ⟨pb, 3, none⟩ r).heap[b]? = w8.heap[b]? := fun b hb => hpS hb
 have hsz8 : (w8.setCell ⟨pb, 3, none⟩ r).heap.size = w8.heap.size := by simp [World.setCell]
 have hSn : ∀ b, b < w2.heap.size → P5S base v0 v1 v2 v3 v4 b → P5S base v0 v1 v2 r v4 b := fun b hb hs => by
  obtain ⟨s, s0, s1, s2, s3, s4⟩ := hs
  exact ⟨s, s0, s1, s2, (fun e => by rcases hrn b e with e | e; exact s3 e; omega), s4⟩
 have hob : ∀ b, base ≤ b → b < w2.heap.size → some b ≠ v3.ownBlock → b ≠ rb → (w8.setCell ⟨pb, 3, none⟩ r).heap[b]? = w2.heap[b]? := fun b hb hl hn _ => (hset b (by omega)).trans (hsame b hl hn)
 have hapn : ∀ v, Apt v v3 → (∀ b, some b = v.ownBlock → b < w2.heap.size) → Apt v r := fun v ha hv b e1 e2 => by
  rcases hrn b e2 with e | e
  · exact ha b e1 e
  · have := hv b e1; omega
 have hbx : (w8.setCell ⟨pb, 3, none⟩ r).heap[pb]? = some (.cells #[v0, v1, v2, r, v4] 28 (0, 0)) := (Qah box8 3 r).trans rfl
 have hgl : base ≤ g ∧ g < w8.heap.size := hrow8.lt g (by rw [er]; rfl)
 refine ⟨r, w8, hr, ⟨g, c, er, hgl⟩, box8, ⟨hbx, h.lt, ?_, ?_, ?_, ?_, ?_, h.a01, h.a02, hapn v0 h.a03 (fun b e => by have := h.r0.lt b e; omega), h.a04, h.a12, hapn v1 h.a13 (fun b e => by have := h.r1.lt b e; omega), h.a14, hapn v2 h.a23 (fun b e => by have := h.r2.lt b e; omega), h.a24, (hapn v4 h.a34.symm (fun b e => by have := h.r4.lt b e; omega)).symm⟩, ?_, ?_⟩
 ·
  refine (h.r0.move Qbn k2.size (S' := fun b => P5S base v0 v1 v2 v3 v4 b ∧ b < w2.heap.size) (fun b hb hl _ => k2.block b hl (by omega)) (fun b hb => hb.1) (fun b hl hs => ⟨hs, by omega⟩)).move Qbn (by omega) (fun b hb hl ho => ?_) (fun b hs => hs.1.1) (fun b _ hs => hSn b hs.2 hs.1)
  refine hob b hb hl ?_ (by omega)
  rcases ho with hs | e
  · exact hs.1.2.2.2.2.1
  · exact h.a03 b e
 ·
  refine (h.r1.move Qbr k2.size (S' := fun b => P5S base v0 v1 v2 v3 v4 b ∧ b < w2.heap.size) (fun b hb hl _ => k2.block b hl (by omega)) (fun b hb => hb.1) (fun b hl hs => ⟨hs, by omega⟩)).move Qbr (by omega) (fun b hb hl ho => ?_) (fun b hs => hs.1.1) (fun b _ hs => hSn b hs.2 hs.1)
  refine hob b hb hl ?_ (by omega)
  rcases ho with hs | e
  · exact hs.1.2.2.2.2.1
  · exact h.a13 b e
 ·
  refine (h.r2.move Qce k2.size (S' := fun b => P5S base v0 v1 v2 v3 v4 b ∧ b < w2.heap.size) (fun b hb hl _ => k2.block b hl (by omega)) (fun b hb => hb.1) (fun b hl hs => ⟨hs, by omega⟩)).move Qce (by omega) (fun b hb hl ho => ?_) (fun b hs => hs.1.1) (fun b _ hs => hSn b hs.2 hs.1)
  refine hob b hb hl ?_ (by omega)
  rcases ho with hs | e
  · exact hs.1.2.2.2.2.1
  · exact h.a23 b e
 · exact hrow8.move Qbx (by omega) (fun b hb _ _ => hset b (by omega)) (fun b hs => hs.1.1) (fun b _ hs => hSn b hs.2 hs.1)
 ·
  refine (h.r4.move Qbq k2.size (S' := fun b => P5S base v0 v1 v2 v3 v4 b ∧ b < w2.heap.size) (fun b hb hl _ => k2.block b hl (by omega)) (fun b hb => hb.1) (fun b hl hs => ⟨hs, by omega⟩)).move Qbq (by omega) (fun b hb hl ho => ?_) (fun b hs => hs.1.1) (fun b _ hs => hSn b hs.2 hs.1)
  refine hob b hb hl ?_ (by omega)
  rcases ho with hs | e
  · exact hs.1.2.2.2.2.1
  · exact h.a34.symm b e
 ·
  have hk : ∀ b, b < base → b ≠ pb → b < w2.heap.size → (w8.setCell ⟨pb, 3, none⟩ r).heap[b]? = w2.heap[b]? := fun b hb hn hl => (hset b hn).trans (hsame b hl (fun e => by have := (hown b e).1; omega))
  exact hR.move (by omega) (hk rb (by omega) (by omega) (Qab hR.box)) (hk tg htg htp hR.row.lt)
 have hs := (Below.refl 0 w8).setCell (p := ⟨pb, 3, none⟩) (Nat.zero_le _) r
 refine ⟨hs.os.trans (g8.os.trans k2.os), hs.tape.trans (g8.tape.trans k2.tape), hs.output.trans (g8.output.trans k2.output), by omega, fun b hb hn hm => ?_⟩
 rw [hset b hm, hsame b (by omega) (fun e => by have := (hown b e).1; omega)]
 exact k2.block b (by omega) hn
theorem P5.radd4 {rb tg tcap ta td ti pb base : Nat} {ty tf : Int} {wr w2 : World} {v0 v1 v2 v3 v4 : Value} {p : Pg} {tl : List Tok} (h : P5 pb base wr v0 v1 v2 v3 v4 p) (hb : base ≤ wr.heap.size) (hrp : rb < pb) (k2 : Kp rb wr w2) (hR : Rr rb tg tcap tl w2 ta td ti ty tf) (htg : tg < base) (htp : tg ≠ pb) {x : Cls} {cs : List Value} (hl : cs.length = 5) (h1 : ∀ c ∈ cs, c.oneCell' = true) {S : Nat → Prop} (hx : PCl S w2 cs x) (hS : ∀ b, S b → wr.heap.size ≤ b) (hf : p.clauses.length ≤ 65536) (zb : Nat) (hzb : w2.heap[zb]? = some (.cells cs.toArray 78 (0, 0))) :
  ∃ r w8, (Builtin.append_ #[26, 26] 26 #[v4, .slice (some ⟨zb, 0, none⟩) 1 1]).run Try.prog w2 = .ok r w8 ∧ (∃ g c, r = .slice (some ⟨g, 0, none⟩) (p.clauses.length + 1) c ∧ base ≤ g ∧ g < w8.heap.size) ∧ w8.heap[pb]? = some (.cells #[v0, v1, v2, v3, v4] 28 (0, 0)) ∧
   P5 pb base (w8.setCell ⟨pb, 4, none⟩ r) v0 v1 v2 v3 r (.mk p.types p.decls p.comps p.inits (p.clauses ++ [x])) ∧ Rr rb tg tcap tl (w8.setCell ⟨pb, 4, none⟩ r) ta td ti ty tf ∧ KB rb pb base wr (w8.setCell ⟨pb, 4, none⟩ r) := by
 obtain ⟨i0, hi, hz, hsz, hby⟩ := info54
 have ht : Try.prog.underlying 26 = some (.slice 78) := by kernel_rfl
 have hlt := h.lt
 have hs2 := k2.size
 have hown : ∀ b, some b = v4.ownBlock → base ≤ b ∧ b < wr.heap.size := h.r4.lt
 have hrow : Row PCl 5 78 base (fun b => P5S base v0 v1 v2 v3 v4 b ∧ b < w2.heap.size) w2 v4 p.clauses := h.r4.move Qbq k2.size (fun b hb hl _ => k2.block b hl (by omega)) (fun b hb => hb.1) (fun b hl hs => ⟨hs, by omega⟩)
 have hx2 : PCl (fun b => P5S base v0 v1 v2 v3 v4 b ∧ b < w2.heap.size) w2 cs x := Qbq.mono _ _ _ _ _ hx (fun b hl hs => by
  have hb' := hS b hs
  exact ⟨⟨by omega, fun e => by have := h.r0.lt b e; omega, fun e => by have := h.r1.lt b e; omega, fun e => by have := h.r2.lt b e; omega, fun e => by have := h.r3.lt b e; omega, fun e => by have := h.r4.lt b e; omega⟩, hl⟩)
 obtain ⟨r, w8, hr, g8, a8, ⟨g, c, er⟩, hrow8⟩ := hrow.app Qbq ht hi hz hsz hby rfl (by decide) (by decide) (fun b hs => hs.1.2.2.2.2.2) hl h1 hx2 (by omega) hf zb hzb
 have hs8 := g8.size
 have hsame : ∀ b, b < w2.heap.size → some b ≠ v4.ownBlock → w8.heap[b]? = w2.heap[b]? := fun b hb hn => g8.block b hb hn
 have hpb : pb < wr.heap.size := Qab h.box
 have box8 : w8.heap[pb]? = some (.cells #[v0, v1, v2, v3, v4] 28 (0, 0)) := (hsame pb (by omega) (fun e => by have := (hown pb e).1; omega)).trans (k2.keep h.box (by omega))
 have hrn : ∀ b, some b = r.ownBlock → some b = v4.ownBlock ∨ w2.heap.size ≤ b := fun b e => by
  rcases a8 with e2 | e2
  · exact .inl (e.trans e2)
  rw [e2] at e
  simp only [Option.some.injEq] at e
  exact .inr (by omega)
 have hset : ∀ b, b ≠ pb → (w8.setCell ⟨pb, 4, none⟩ r).heap[b]? = w8.heap[b]? := fun b hb => hpS hb
 have hsz8 : (w8.setCell ⟨pb, 4, none⟩ r).heap.size = w8.heap.size := by simp [World.setCell]
 have hSn : ∀ b, b < w2.heap.size → P5S base v0 v1 v2 v3 v4 b → P5S base v0 v1 v2 v3 r b := fun b hb hs => by
  obtain ⟨s, s0, s1, s2, s3, s4⟩ := hs
  exact ⟨s, s0, s1, s2, s3, (fun e => by rcases hrn b e with e | e; exact s4 e; omega)⟩
 have hob : ∀ b, base ≤ b → b < w2.heap.size → some b ≠ v4.ownBlock → b ≠ rb → (w8.setCell ⟨pb, 4, none⟩ r).heap[b]? = w2.heap[b]? := fun b hb hl hn _ => (hset b (by omega)).trans (hsame b hl hn)
 have hapn : ∀ v, Apt v v4 → (∀ b, some b = v.ownBlock → b < w2.heap.size) → Apt v r := fun v ha hv b e1 e2 => by
  rcases hrn b e2 with e | e
  · exact ha b e1 e
  · have := hv b e1; omega
 have hbx : (w8.setCell ⟨pb, 4, none⟩ r).heap[pb]? = some (.cells #[v0, v1, v2, v3, r] 28 (0, 0)) := (Qah box8 4 r).trans rfl
 have hgl : base ≤ g ∧ g < w8.heap.size := hrow8.lt g (by rw [er]; rfl)
 refine ⟨r, w8, hr, ⟨g, c, er, hgl⟩, box8, ⟨hbx, h.lt, ?_, ?_, ?_, ?_, ?_, h.a01, h.a02, h.a03, hapn v0 h.a04 (fun b e => by have := h.r0.lt b e; omega), h.a12, h.a13, hapn v1 h.a14 (fun b e => by have := h.r1.lt b e; omega), h.a23, hapn v2 h.a24 (fun b e => by have := h.r2.lt b e; omega), hapn v3 h.a34 (fun b e => by have := h.r3.lt b e; omega)⟩, ?_, ?_⟩
 ·
  refine (h.r0.move Qbn k2.size (S' := fun b => P5S base v0 v1 v2 v3 v4 b ∧ b < w2.heap.size) (fun b hb hl _ => k2.block b hl (by omega)) (fun b hb => hb.1) (fun b hl hs => ⟨hs, by omega⟩)).move Qbn (by omega) (fun b hb hl ho => ?_) (fun b hs => hs.1.1) (fun b _ hs => hSn b hs.2 hs.1)
  refine hob b hb hl ?_ (by omega)
  rcases ho with hs | e
  · exact hs.1.2.2.2.2.2
  · exact h.a04 b e
 ·
  refine (h.r1.move Qbr k2.size (S' := fun b => P5S base v0 v1 v2 v3 v4 b ∧ b < w2.heap.size) (fun b hb hl _ => k2.block b hl (by omega)) (fun b hb => hb.1) (fun b hl hs => ⟨hs, by omega⟩)).move Qbr (by omega) (fun b hb hl ho => ?_) (fun b hs => hs.1.1) (fun b _ hs => hSn b hs.2 hs.1)
  refine hob b hb hl ?_ (by omega)
  rcases ho with hs | e
  · exact hs.1.2.2.2.2.2
  · exact h.a14 b e
 ·
  refine (h.r2.move Qce k2.size (S' := fun b => P5S base v0 v1 v2 v3 v4 b ∧ b < w2.heap.size) (fun b hb hl _ => k2.block b hl (by omega)) (fun b hb => hb.1) (fun b hl hs => ⟨hs, by omega⟩)).move Qce (by omega) (fun b hb hl ho => ?_) (fun b hs => hs.1.1) (fun b _ hs => hSn b hs.2 hs.1)
  refine hob b hb hl ?_ (by omega)
  rcases ho with hs | e
  · exact hs.1.2.2.2.2.2
  · exact h.a24 b e
 ·
  refine (h.r3.move Qbx k2.size (S' := fun b => P5S base v0 v1 v2 v3 v4 b ∧ b < w2.heap.size) (fun b hb hl _ => k2.block b hl (by omega)) (fun b hb => hb.1) (fun b hl hs => ⟨hs, by omega⟩)).move Qbx (by omega) (fun b hb hl ho => ?_) (fun b hs => hs.1.1) (fun b _ hs => hSn b hs.2 hs.1)
  refine hob b hb hl ?_ (by omega)
  rcases ho with hs | e
  · exact hs.1.2.2.2.2.2
  · exact h.a34 b e
 · exact hrow8.move Qbq (by omega) (fun b hb _ _ => hset b (by omega)) (fun b hs => hs.1.1) (fun b _ hs => hSn b hs.2 hs.1)
 ·
  have hk : ∀ b, b < base → b ≠ pb → b < w2.heap.size → (w8.setCell ⟨pb, 4, none⟩ r).heap[b]? = w2.heap[b]? := fun b hb hn hl => (hset b hn).trans (hsame b hl (fun e => by have := (hown b e).1; omega))
  exact hR.move (by omega) (hk rb (by omega) (by omega) (Qab hR.box)) (hk tg htg htp hR.row.lt)
 have hs := (Below.refl 0 w8).setCell (p := ⟨pb, 4, none⟩) (Nat.zero_le _) r
 refine ⟨hs.os.trans (g8.os.trans k2.os), hs.tape.trans (g8.tape.trans k2.tape), hs.output.trans (g8.output.trans k2.output), by omega, fun b hb hn hm => ?_⟩
 rw [hset b hm, hsame b (by omega) (fun e => by have := (hown b e).1; omega)]
 exact k2.block b (by omega) hn
structure PgB (rb g : Nat) (w : World) (pb : Nat) (W : World) (v0 v1 v2 v3 v4 : Value) (p : Pg) : Prop where
 p5 : P5 pb (pb + 1) W v0 v1 v2 v3 v4 p
 kp : Kp rb w W
 res : W.heap[w.heap.size]? = some (.cells #[.slice none 0 0, .slice none 0 0, .slice none 0 0, .slice none 0 0, .slice none 0 0] 28 (0, 0))
 r1 : rb < w.heap.size
 g1 : g < w.heap.size
 x1 : w.heap.size < pb
theorem PgB.call {rb g : Nat} {w : World} {pb : Nat} {W W' : World} {v0 v1 v2 v3 v4 : Value} {p : Pg} (h : PgB rb g w pb W v0 v1 v2 v3 v4 p) (k : Kp rb W W') : PgB rb g w pb W' v0 v1 v2 v3 v4 p :=
 ⟨h.p5.kp k (by have := h.r1; have := h.x1; omega), h.kp.trans k, k.keep h.res (by have := h.r1; omega), h.r1, h.g1, h.x1⟩
theorem PgB.fin {rb g : Nat} {w : World} {pb : Nat} {W W' : World} {v0 v1 v2 v3 v4 : Value} {p : Pg} (h : PgB rb g w pb W v0 v1 v2 v3 v4 p) (hs : W'.heap.size = W.heap.size) (ho : W'.os = W.os ∧ W'.tape = W.tape ∧ W'.output = W.output) (hb : ∀ q, q ≠ w.heap.size → W'.heap[q]? = W.heap[q]?) : Kp rb w W' ∧ PgS (fun b => w.heap.size ≤ b) W' [v0, v1, v2, v3, v4] p := by
 have hx1 := h.x1
 refine ⟨⟨ho.1.trans h.kp.os, ho.2.1.trans h.kp.tape, ho.2.2.trans h.kp.output, by rw [hs]; exact h.kp.size, fun q hq hn => (hb q (by omega)).trans (h.kp.block q hq hn)⟩, ?_⟩
 have e0 := ((h.p5.r0.ls Qbn (fun b hs => hs.1)).same Qbn (w' := W') (by omega) (fun b hl _ => hb b (by have hl' : pb + 1 ≤ b := hl; omega))).mono Qbn (S' := fun b => w.heap.size ≤ b) (fun b _ hl => by have hl' : pb + 1 ≤ b := hl; omega)
 have e1 := ((h.p5.r1.ls Qbr (fun b hs => hs.1)).same Qbr (w' := W') (by omega) (fun b hl _ => hb b (by have hl' : pb + 1 ≤ b := hl; omega))).mono Qbr (S' := fun b => w.heap.size ≤ b) (fun b _ hl => by have hl' : pb + 1 ≤ b := hl; omega)
 have e2 := ((h.p5.r2.ls Qce (fun b hs => hs.1)).same Qce (w' := W') (by omega) (fun b hl _ => hb b (by have hl' : pb + 1 ≤ b := hl; omega))).mono Qce (S' := fun b => w.heap.size ≤ b) (fun b _ hl => by have hl' : pb + 1 ≤ b := hl; omega)
 have e3 := ((h.p5.r3.ls Qbx (fun b hs => hs.1)).same Qbx (w' := W') (by omega) (fun b hl _ => hb b (by have hl' : pb + 1 ≤ b := hl; omega))).mono Qbx (S' := fun b => w.heap.size ≤ b) (fun b _ hl => by have hl' : pb + 1 ≤ b := hl; omega)
 have e4 := ((h.p5.r4.ls Qbq (fun b hs => hs.1)).same Qbq (w' := W') (by omega) (fun b hl _ => hb b (by have hl' : pb + 1 ≤ b := hl; omega))).mono Qbq (S' := fun b => w.heap.size ≤ b) (fun b _ hl => by have hl' : pb + 1 ≤ b := hl; omega)
 have := Qrf e0 e1 e2 e3 e4
 cases p
 exact this
theorem PgB.more0 {rb g : Nat} {w : World} {pb : Nat} {W w2 : World} {v0 v1 v2 v3 v4 : Value} {p : Pg} {cap a d i : Nat} {l : List Tok} {y f : Int} (h : PgB rb g w pb W v0 v1 v2 v3 v4 p) (k2 : Kp rb W w2) (hR : Rr rb g cap l w2 a d i y f) {x : Typ} {cs : List Value} (hl : cs.length = 4) (h1 : ∀ c ∈ cs, c.oneCell' = true) (hx : PTy (fun b => W.heap.size ≤ b) w2 cs x) (hf : p.types.length ≤ 65536) :
  ∃ ga gc w8, (Builtin.append_ #[22, 22] 22 #[v0, .slice (some ⟨w2.heap.size, 0, none⟩) 1 1]).run Try.prog (w2.alloc (.cells cs.toArray 68)) = .ok (.slice (some ⟨ga, 0, none⟩) (p.types.length + 1) gc) w8 ∧ w8.heap[pb]? = some (.cells #[v0, v1, v2, v3, v4] 28 (0, 0)) ∧ PgB rb g w pb (w8.setCell ⟨pb, 0, none⟩ (.slice (some ⟨ga, 0, none⟩) (p.types.length + 1) gc)) (.slice (some ⟨ga, 0, none⟩) (p.types.length + 1) gc) v1 v2 v3 v4 (.mk (p.types ++ [x]) p.decls p.comps p.inits p.clauses) ∧ Rr rb g cap l (w8.setCell ⟨pb, 0, none⟩ (.slice (some ⟨ga, 0, none⟩) (p.types.length + 1) gc)) a d i y f := by
 have hx1 := h.x1
 have hr1 := h.r1
 have hg1 := h.g1
 have hpl := Qab h.p5.box
 have b3 : Below w2.heap.size w2 (w2.alloc (.cells cs.toArray 68)) := (Below.refl _ w2).alloc (Nat.le_refl _) _
 obtain ⟨r, w8, hrun, ⟨ga, gc, er, _, _⟩, bx8, h9, R9, kb⟩ := h.p5.radd0 (rb := rb) (by omega) (by omega) (k2.trans (Kp.of_below b3)) (hR.later b3) (by omega) (by omega) hl h1 (Qbn.same _ _ _ _ _ hx b3.size (fun b _ hl => b3.block b hl)) (fun b hb => hb) hf w2.heap.size (heap_alloc_new w2 _)
 subst er
 exact ⟨ga, gc, w8, hrun, bx8, ⟨h9, ⟨kb.os.trans h.kp.os, kb.tape.trans h.kp.tape, kb.output.trans h.kp.output, Nat.le_trans h.kp.size kb.size, fun q hq hn => (kb.block q (by omega) hn (by omega)).trans (h.kp.block q hq hn)⟩, (kb.block _ (by omega) (by omega) (by omega)).trans h.res, hr1, hg1, hx1⟩, R9⟩
theorem PgB.more1 {rb g : Nat} {w : World} {pb : Nat} {W w2 : World} {v0 v1 v2 v3 v4 : Value} {p : Pg} {cap a d i : Nat} {l : List Tok} {y f : Int} (h : PgB rb g w pb W v0 v1 v2 v3 v4 p) (k2 : Kp rb W w2) (hR : Rr rb g cap l w2 a d i y f) {x : Dcl} {cs : List Value} (hl : cs.length = 5) (h1 : ∀ c ∈ cs, c.oneCell' = true) (hx : PDc (fun b => W.heap.size ≤ b) w2 cs x) (hf : p.decls.length ≤ 65536) :
  ∃ ga gc w8, (Builtin.append_ #[23, 23] 23 #[v1, .slice (some ⟨w2.heap.size, 0, none⟩) 1 1]).run Try.prog (w2.alloc (.cells cs.toArray 43)) = .ok (.slice (some ⟨ga, 0, none⟩) (p.decls.length + 1) gc) w8 ∧ w8.heap[pb]? = some (.cells #[v0, v1, v2, v3, v4] 28 (0, 0)) ∧ PgB rb g w pb (w8.setCell ⟨pb, 1, none⟩ (.slice (some ⟨ga, 0, none⟩) (p.decls.length + 1) gc)) v0 (.slice (some ⟨ga, 0, none⟩) (p.decls.length + 1) gc) v2 v3 v4 (.mk p.types (p.decls ++ [x]) p.comps p.inits p.clauses) ∧ Rr rb g cap l (w8.setCell ⟨pb, 1, none⟩ (.slice (some ⟨ga, 0, none⟩) (p.decls.length + 1) gc)) a d i y f := by
 have hx1 := h.x1
 have hr1 := h.r1
 have hg1 := h.g1
 have hpl := Qab h.p5.box
 have b3 : Below w2.heap.size w2 (w2.alloc (.cells cs.toArray 43)) := (Below.refl _ w2).alloc (Nat.le_refl _) _
 obtain ⟨r, w8, hrun, ⟨ga, gc, er, _, _⟩, bx8, h9, R9, kb⟩ := h.p5.radd1 (rb := rb) (by omega) (by omega) (k2.trans (Kp.of_below b3)) (hR.later b3) (by omega) (by omega) hl h1 (Qbr.same _ _ _ _ _ hx b3.size (fun b _ hl => b3.block b hl)) (fun b hb => hb) hf w2.heap.size (heap_alloc_new w2 _)
 subst er
 exact ⟨ga, gc, w8, hrun, bx8, ⟨h9, ⟨kb.os.trans h.kp.os, kb.tape.trans h.kp.tape, kb.output.trans h.kp.output, Nat.le_trans h.kp.size kb.size, fun q hq hn => (kb.block q (by omega) hn (by omega)).trans (h.kp.block q hq hn)⟩, (kb.block _ (by omega) (by omega) (by omega)).trans h.res, hr1, hg1, hx1⟩, R9⟩
theorem PgB.more2 {rb g : Nat} {w : World} {pb : Nat} {W w2 : World} {v0 v1 v2 v3 v4 : Value} {p : Pg} {cap a d i : Nat} {l : List Tok} {y f : Int} (h : PgB rb g w pb W v0 v1 v2 v3 v4 p) (k2 : Kp rb W w2) (hR : Rr rb g cap l w2 a d i y f) {x : Cp} {cs : List Value} (hl : cs.length = 8) (h1 : ∀ c ∈ cs, c.oneCell' = true) (hx : PCo (fun b => W.heap.size ≤ b) w2 cs x) (hf : p.comps.length ≤ 65536) :
  ∃ ga gc w8, (Builtin.append_ #[24, 24] 24 #[v2, .slice (some ⟨w2.heap.size, 0, none⟩) 1 1]).run Try.prog (w2.alloc (.cells cs.toArray 40)) = .ok (.slice (some ⟨ga, 0, none⟩) (p.comps.length + 1) gc) w8 ∧ w8.heap[pb]? = some (.cells #[v0, v1, v2, v3, v4] 28 (0, 0)) ∧ PgB rb g w pb (w8.setCell ⟨pb, 2, none⟩ (.slice (some ⟨ga, 0, none⟩) (p.comps.length + 1) gc)) v0 v1 (.slice (some ⟨ga, 0, none⟩) (p.comps.length + 1) gc) v3 v4 (.mk p.types p.decls (p.comps ++ [x]) p.inits p.clauses) ∧ Rr rb g cap l (w8.setCell ⟨pb, 2, none⟩ (.slice (some ⟨ga, 0, none⟩) (p.comps.length + 1) gc)) a d i y f := by
 have hx1 := h.x1
 have hr1 := h.r1
 have hg1 := h.g1
 have hpl := Qab h.p5.box
 have b3 : Below w2.heap.size w2 (w2.alloc (.cells cs.toArray 40)) := (Below.refl _ w2).alloc (Nat.le_refl _) _
 obtain ⟨r, w8, hrun, ⟨ga, gc, er, _, _⟩, bx8, h9, R9, kb, _, _⟩ := h.p5.radd2 (rb := rb) (by omega) (by omega) (k2.trans (Kp.of_below b3)) (hR.later b3) (by omega) (by omega) hl h1 (Qce.same _ _ _ _ _ hx b3.size (fun b _ hl => b3.block b hl)) (fun b hb => hb) hf w2.heap.size (heap_alloc_new w2 _)
 subst er
 exact ⟨ga, gc, w8, hrun, bx8, ⟨h9, ⟨kb.os.trans h.kp.os, kb.tape.trans h.kp.tape, kb.output.trans h.kp.output, Nat.le_trans h.kp.size kb.size, fun q hq hn => (kb.block q (by omega) hn (by omega)).trans (h.kp.block q hq hn)⟩, (kb.block _ (by omega) (by omega) (by omega)).trans h.res, hr1, hg1, hx1⟩, R9⟩
theorem PgB.more3 {rb g : Nat} {w : World} {pb : Nat} {W w2 : World} {v0 v1 v2 v3 v4 : Value} {p : Pg} {cap a d i : Nat} {l : List Tok} {y f : Int} (h : PgB rb g w pb W v0 v1 v2 v3 v4 p) (k2 : Kp rb W w2) (hR : Rr rb g cap l w2 a d i y f) {x : Ini} {cs : List Value} (hl : cs.length = 3) (h1 : ∀ c ∈ cs, c.oneCell' = true) (hx : PIn (fun b => W.heap.size ≤ b) w2 cs x) (hf : p.inits.length ≤ 65536) :
  ∃ ga gc w8, (Builtin.append_ #[25, 25] 25 #[v3, .slice (some ⟨w2.heap.size, 0, none⟩) 1 1]).run Try.prog (w2.alloc (.cells cs.toArray 45)) = .ok (.slice (some ⟨ga, 0, none⟩) (p.inits.length + 1) gc) w8 ∧ w8.heap[pb]? = some (.cells #[v0, v1, v2, v3, v4] 28 (0, 0)) ∧ PgB rb g w pb (w8.setCell ⟨pb, 3, none⟩ (.slice (some ⟨ga, 0, none⟩) (p.inits.length + 1) gc)) v0 v1 v2 (.slice (some ⟨ga, 0, none⟩) (p.inits.length + 1) gc) v4 (.mk p.types p.decls p.comps (p.inits ++ [x]) p.clauses) ∧ Rr rb g cap l (w8.setCell ⟨pb, 3, none⟩ (.slice (some ⟨ga, 0, none⟩) (p.inits.length + 1) gc)) a d i y f := by
 have hx1 := h.x1
 have hr1 := h.r1
 have hg1 := h.g1
 have hpl := Qab h.p5.box
 have b3 : Below w2.heap.size w2 (w2.alloc (.cells cs.toArray 45)) := (Below.refl _ w2).alloc (Nat.le_refl _) _
 obtain ⟨r, w8, hrun, ⟨ga, gc, er, _, _⟩, bx8, h9, R9, kb⟩ := h.p5.radd3 (rb := rb) (by omega) (by omega) (k2.trans (Kp.of_below b3)) (hR.later b3) (by omega) (by omega) hl h1 (Qbx.same _ _ _ _ _ hx b3.size (fun b _ hl => b3.block b hl)) (fun b hb => hb) hf w2.heap.size (heap_alloc_new w2 _)
 subst er
 exact ⟨ga, gc, w8, hrun, bx8, ⟨h9, ⟨kb.os.trans h.kp.os, kb.tape.trans h.kp.tape, kb.output.trans h.kp.output, Nat.le_trans h.kp.size kb.size, fun q hq hn => (kb.block q (by omega) hn (by omega)).trans (h.kp.block q hq hn)⟩, (kb.block _ (by omega) (by omega) (by omega)).trans h.res, hr1, hg1, hx1⟩, R9⟩
theorem PgB.more4 {rb g : Nat} {w : World} {pb : Nat} {W w2 : World} {v0 v1 v2 v3 v4 : Value} {p : Pg} {cap a d i : Nat} {l : List Tok} {y f : Int} (h : PgB rb g w pb W v0 v1 v2 v3 v4 p) (k2 : Kp rb W w2) (hR : Rr rb g cap l w2 a d i y f) {x : Cls} {cs : List Value} (hl : cs.length = 5) (h1 : ∀ c ∈ cs, c.oneCell' = true) (hx : PCl (fun b => W.heap.size ≤ b) w2 cs x) (hf : p.clauses.length ≤ 65536) :
  ∃ ga gc w8, (Builtin.append_ #[26, 26] 26 #[v4, .slice (some ⟨w2.heap.size, 0, none⟩) 1 1]).run Try.prog (w2.alloc (.cells cs.toArray 78)) = .ok (.slice (some ⟨ga, 0, none⟩) (p.clauses.length + 1) gc) w8 ∧ w8.heap[pb]? = some (.cells #[v0, v1, v2, v3, v4] 28 (0, 0)) ∧ PgB rb g w pb (w8.setCell ⟨pb, 4, none⟩ (.slice (some ⟨ga, 0, none⟩) (p.clauses.length + 1) gc)) v0 v1 v2 v3 (.slice (some ⟨ga, 0, none⟩) (p.clauses.length + 1) gc) (.mk p.types p.decls p.comps p.inits (p.clauses ++ [x])) ∧ Rr rb g cap l (w8.setCell ⟨pb, 4, none⟩ (.slice (some ⟨ga, 0, none⟩) (p.clauses.length + 1) gc)) a d i y f := by
 have hx1 := h.x1
 have hr1 := h.r1
 have hg1 := h.g1
 have hpl := Qab h.p5.box
 have b3 : Below w2.heap.size w2 (w2.alloc (.cells cs.toArray 78)) := (Below.refl _ w2).alloc (Nat.le_refl _) _
 obtain ⟨r, w8, hrun, ⟨ga, gc, er, _, _⟩, bx8, h9, R9, kb⟩ := h.p5.radd4 (rb := rb) (by omega) (by omega) (k2.trans (Kp.of_below b3)) (hR.later b3) (by omega) (by omega) hl h1 (Qbq.same _ _ _ _ _ hx b3.size (fun b _ hl => b3.block b hl)) (fun b hb => hb) hf w2.heap.size (heap_alloc_new w2 _)
 subst er
 exact ⟨ga, gc, w8, hrun, bx8, ⟨h9, ⟨kb.os.trans h.kp.os, kb.tape.trans h.kp.tape, kb.output.trans h.kp.output, Nat.le_trans h.kp.size kb.size, fun q hq hn => (kb.block q (by omega) hn (by omega)).trans (h.kp.block q hq hn)⟩, (kb.block _ (by omega) (by omega) (by omega)).trans h.res, hr1, hg1, hx1⟩, R9⟩
end
end Go.Proofs.Ytfmbpaoapjmdnaa
