/- Walk of a text between quotes. Walks of the signs. Walks of a sign and of a token. -/
import Derived.Test.YtccehgfecaamoaaGreatDoorQa03
import Derived.Laws.AppendOwnNone
import Derived.Deep.AppendLies
import Derived.WalkSpells
import Derived.Deep.MidRow
set_option maxRecDepth 100000
set_option maxHeartbeats 32000000
namespace Go.Proofs.YtccehgfecaamoaaGreatDoor
section
open Go.ChangeShapes Go.WideShapes Go.RowKit
def TR.app (bs : Txt) (k : Nat) : TR → TR
 | ok v n => ok (bs ++ v) (n + k)
 | bad o => bad (o + k)
 | never => never
theorem TR.app_nil (x : TR) : x.app [] 0 = x := by cases x <;> rfl
theorem TR.app_pre (bs : Txt) (k : Nat) (c : UInt8) (j : Nat) (x : TR) : (x.pre c j).app bs k = x.app (bs ++ [c]) (k + j) := by
 cases x with
 | ok v n => simp [TR.pre, TR.app]; omega
 | bad o => simp [TR.pre, TR.app]; omega
 | never => rfl

theorem Qtl {c : UInt8} (h1 : ¬ c = 34) (h2 : ¬ c = 10) (h3 : ¬ c = 92) : ∀ t : Txt, txScan (c :: t) = (txScan t).pre c 1
 | [] => by simp [txScan, h1, h2, h3, TR.pre]
 | d :: u => by rw [txScan, if_neg h1, if_neg h2, if_neg h3]
theorem Qmb : ∀ t : Txt, txScan (34 :: t) = .ok [] 1
 | [] => by simp [txScan]
 | d :: u => by rw [txScan, if_pos rfl]
theorem tx_line : ∀ t : Txt, txScan (10 :: t) = .bad 0
 | [] => by simp [txScan]
 | d :: u => by rw [txScan, if_neg (by decide), if_pos rfl]
theorem tx_esc {d b : UInt8} (h : esc d = some b) (u : Txt) : txScan (92 :: d :: u) = (txScan u).pre b 2 := by
 rw [txScan, if_neg (by decide), if_neg (by decide), if_pos rfl, h]
theorem Qtk : ∀ t : Txt, (∀ d u, t = d :: u → esc d = none) → txScan (92 :: t) = .bad 0
 | [], _ => by simp [txScan]
 | d :: u, h => by rw [txScan, if_neg (by decide), if_neg (by decide), if_pos rfl, h d u rfl]

def byteVals (l : List UInt8) : List Value := l.map fun b => Value.int .u8 (b.toNat : Int)
theorem Qs {wr : World} {B : Nat} {v : Value} {bs : List UInt8} (hown : wr.ownsRow B 5 1 v bs.length (byteVals bs)) (hne : bs ≠ []) :
  (convert 51 9 v).run Tryz.prog wr = .ok (.string ⟨bs.toArray⟩) wr := by
 rcases hown.2 with ⟨_, h⟩ | ⟨g, cap, cur, rfl, hg, hheap, hle, hcap, hsz, htake⟩
 · exact absurd (List.eq_nil_of_length_eq_zero h) hne
 refine run_convert_bytes_back wr 51 9 5 ⟨g, 0, none⟩ cap bs Tryz.underlying51 Tryz.underlying5 Tryz.underlying9 fun j hj => ?_
 refine World.news_of_block hheap j _ ?_
 have h1 : (cur.toList.take (bs.length * 1))[j]? = (byteVals bs)[j]? := by rw [htake]
 rw [List.getElem?_take, if_pos (by omega)] at h1
 rw [h1]
 simp [byteVals, hj]
theorem Qrz (w : World) : (convert 51 9 (.slice none 0 0)).run Tryz.prog w = .ok (.string ⟨#[]⟩) w := by
 rw [run_convert_bytes_string w 51 9 5 none 0 0 Tryz.underlying51 Tryz.underlying5 Tryz.underlying9]
 simp [Conv.bytesToString]
 rfl
theorem info5 : (Tryz.prog.info? 5).map (fun i => (i.zero, i.size, i.bytes)) = some (some (.int .u8 0), 1, 1) := by kernel_rfl

def TxRel (s : ByteArray) (k B : Nat) (W0 : World) (v i : Value) (wr : World) : Prop :=
 ∃ (m : Nat) (bs : Txt), i = .int .i64 (m : Int) ∧ Hid (k + 1 ≤ m ∧ m ≤ s.size ∧ bs.length ≤ m ∧ wr.ownsRow B 5 1 v bs.length (byteVals bs) ∧ Below B W0 wr ∧
  txScan (s.data.toList.drop (k + 1)) = (txScan (s.data.toList.drop m)).app bs (m - (k + 1)) ∧ (bs = [] → v = .slice none 0 0))

theorem Qrk {s : ByteArray} {k B m n : Nat} {W0 wr w2 : World} {v v' : Value} {bs : Txt} {c : UInt8} {x : Int} (hx : x = (c.toNat : Int)) (hB : B ≤ W0.heap.size)
  (h : k + 1 ≤ m ∧ m ≤ s.size ∧ bs.length ≤ m ∧ wr.ownsRow B 5 1 v bs.length (byteVals bs) ∧ Below B W0 wr ∧ txScan (s.data.toList.drop (k + 1)) = (txScan (s.data.toList.drop m)).app bs (m - (k + 1)) ∧ (bs = [] → v = .slice none 0 0))
  (hn : 0 < n) (hm : m + n ≤ s.size) (ht : txScan (s.data.toList.drop m) = (txScan (s.data.toList.drop (m + n))).pre c n)
  (hown : w2.ownsRow B 5 1 v' (bs.length + 1) (byteVals bs ++ [.int .u8 x])) (hgrow : (wr.alloc (.cells #[.int .u8 x] 5)).grownBy w2 v.ownBlock) :
  TxRel s k B W0 v' (.int .i64 ((m + n : Nat) : Int)) w2 := by
 obtain ⟨h1, h2, h3, h4, h5, h6, h7⟩ := h
 refine ⟨m + n, bs ++ [c], rfl, hide ⟨by omega, hm, by rw [List.length_append]; simp; omega, ?_, ?_, ?_, fun h => absurd h (by simp)⟩⟩
 ·
  have e : byteVals (bs ++ [c]) = byteVals bs ++ [.int .u8 x] := by rw [hx]; simp [byteVals]
  rw [e, List.length_append]; exact hown
 ·
  have hsz := h5.size
  exact (h5.alloc (by omega) _).grown hgrow (by simp; omega) (fun j hj => (h4.lt j hj).1)
 rw [h6, ht, TR.app_pre]
 congr 1
 omega

theorem Qif (wr : World) (x : Value) : ∀ j u, ([x] : List Value)[j]? = some u → (wr.alloc (.cells #[x] 5)).cell? ((⟨wr.heap.size, 0, none⟩ : Addr).add j) = some u := by
 intro j u hj
 match j, hj with
 | 0, hj => simp at hj; subst hj; simp [Addr.add]
theorem Qla (x : Int) : ∀ u ∈ ([.int .u8 x] : List Value), u.oneCell' = true := by
 intro u hu; simp at hu; subst hu; rfl
theorem esc_at {s : ByteArray} {m : Nat} (h : m < s.size) (h92 : bv s[m] = 92) : s.data.toList.drop m = 92 :: s.data.toList.drop (m + 1) := by
 have e : s[m] = 92 := (Qfk (k := 92) (by omega)).1 h92
 rw [Qaq s m h, e]
theorem Qjx : ∃ i0 : TypeInfo, Tryz.prog.info? 5 = some i0 ∧ i0.zero = some (.int .u8 0) ∧ i0.size = 1 ∧ i0.bytes = 1 := by
 obtain ⟨i0, hi, hi3⟩ := Option.map_eq_some_iff.1 info5
 simp only [Prod.mk.injEq] at hi3
 exact ⟨i0, hi, hi3⟩

theorem Qrf (s : ByteArray) (k : Nat) (hk : k < s.size) (hs : s.size ≤ 65536) (w : World) :
  Calls Tryz.prog 58 #[.string s, .int .i64 (k : Int)] w fun e w' => e = .returned (resT k (txRes (s.data.toList.drop (k + 1)))).val ∧ Below w.heap.size w w' := by
 have hb := Qdm w
 obtain ⟨i0, hi, hz0, hz1, hz2⟩ := Qjx
 have HI := hide (show Tryz.prog.info? 5 = some i0 ∧ i0.zero = some (.int .u8 0) ∧ i0.size = 1 ∧ i0.bytes = 1 from ⟨hi, hz0, hz1, hz2⟩)
 clear hi hz0 hz1 hz2
 obtain ⟨W0, hW0⟩ : ∃ W0, (w.alloc tokZ).alloc fltZ = W0 := ⟨_, rfl⟩
 have hW0s : W0.heap.size = w.heap.size + 2 := by rw [← hW0]; simp
 have HBX := hide (show ∀ w2, Below (w.heap.size + 2) W0 w2 → Boxes w2 w.heap.size (w.heap.size + 1) ∧ Below w.heap.size w w2 from fun w2 h => by
  rw [← hW0] at h
  exact ⟨Qal h, hb.trans (h.mono (by omega))⟩)
 have HW0 := hide hW0s
 go_enter Tryz.func58, Tryz.ntmps58
 go_wp2
 clear hW0 hW0s hb
 go_loopw [7, 8] (fun v i wr => TxRel s k (w.heap.size + 2) W0 v i wr) (fun _ i _ => s.size - (intOf i).toNat)
 case atStart => exact ⟨k + 1, [], by go_num, hide ⟨Nat.le_refl _, by omega, Nat.zero_le _, World.ownsRow_nil _ _ _ _, Below.refl _ _, by rw [Nat.sub_self, TR.app_nil], fun _ => rfl⟩⟩
 obtain ⟨m, bs, rfl, HH⟩ := hrel
 obtain ⟨hkm, hms, hbl, hown, hbel, htx, hnil⟩ := Qa HH
 have hsz := hbel.size
 rw [Qa HW0] at hsz
 by_cases hlt : m < s.size
 ·
  cases e1 : ((s[m].toNat : Int) == 34) with
  | true =>
   by_cases hbs : bs = []
   ·
    have H := hide (show resT k (txRes (s.data.toList.drop (k + 1))) = ⟨3, ⟨bs.toArray⟩, 0, (k : Int), (m : Int) + 1, 0, 0⟩ by
     unfold txRes; rw [htx, (show s.data.toList.drop m = 34 :: s.data.toList.drop (m + 1) by rw [Qaq s m hlt, (Qfk (k := 34) (by omega)).1 (beq_iff_eq.1 e1)]; rfl), Qmb]
     simp only [TR.app, resT, List.append_nil]; congr 1; omega)
    obtain ⟨⟨x0, x1, x2, x3, y0, y1, fx, fy⟩, bw⟩ := Qa HBX wr hbel
    have hv := hnil hbs
    subst hv hbs
    have hcv := Qrz wr
    clear htx hnil hown HBX
    go_wp2_with fail
    refine bodyPost_ret (v := TV.val ⟨3, ⟨#[]⟩, 0, (k : Int), (m : Int) + 1, 0, 0⟩) (by simp [results, Tryz.results58, go_sem, x0, x1, x2, x3, y0, y1]) rfl ?_
    exact ⟨Qcn (Qa H).symm, Qah bw (Nat.le_refl _) (Nat.le_succ _) _ _ _ _ _ _⟩
   have H := hide (show resT k (txRes (s.data.toList.drop (k + 1))) = ⟨3, ⟨bs.toArray⟩, 0, (k : Int), (m : Int) + 1, 0, 0⟩ by
    unfold txRes; rw [htx, (show s.data.toList.drop m = 34 :: s.data.toList.drop (m + 1) by rw [Qaq s m hlt, (Qfk (k := 34) (by omega)).1 (beq_iff_eq.1 e1)]; rfl), Qmb]
    simp only [TR.app, resT, List.append_nil]; congr 1; omega)
   obtain ⟨⟨x0, x1, x2, x3, y0, y1, fx, fy⟩, bw⟩ := Qa HBX wr hbel
   have hcv := Qs hown hbs
   clear htx hnil hown hbs HBX
   go_wp2_with fail
   refine bodyPost_ret (v := TV.val ⟨3, ⟨bs.toArray⟩, 0, (k : Int), (m : Int) + 1, 0, 0⟩) (by simp [results, Tryz.results58, go_sem, x0, x1, x2, x3, y0, y1]) rfl ?_
   exact ⟨Qcn (Qa H).symm, Qah bw (Nat.le_refl _) (Nat.le_succ _) _ _ _ _ _ _⟩
  | false =>
   have n1 := beq_eq_false_iff_ne.1 e1
   cases e2 : ((s[m].toNat : Int) == 10) with
   | true =>
    have H := hide (show resT k (txRes (s.data.toList.drop (k + 1))) = ⟨0, ⟨#[]⟩, 0, 0, 0, 7, (m : Int)⟩ by
     unfold txRes; rw [htx, (show s.data.toList.drop m = 10 :: s.data.toList.drop (m + 1) by rw [Qaq s m hlt, (Qfk (k := 10) (by omega)).1 (beq_iff_eq.1 e2)]; rfl), tx_line]
     simp only [TR.app, resT]; congr 1; omega)
    clear htx hnil hown
    go_wp2_with fail
    refine (Qcb _ _ _).mono ?_
    rintro e w2 ⟨rfl, b2⟩
    obtain ⟨⟨x0, x1, x2, x3, y0, y1, fx, fy⟩, bw⟩ := Qa HBX w2 (hbel.trans (b2.mono (by omega)))
    clear HBX
    go_wp2_with fail
    refine bodyPost_ret (v := TV.val ⟨0, ⟨#[]⟩, 0, 0, 0, 7, (m : Int)⟩) (by simp [results, Tryz.results58, go_sem, x0, x1, x2, x3, y0, y1]) rfl ?_
    exact ⟨Qcn (Qa H).symm, Qah bw (Nat.le_refl _) (Nat.le_succ _) _ _ _ _ _ _⟩
   | false =>
    have n2 := beq_eq_false_iff_ne.1 e2
    cases e3 : ((s[m].toNat : Int) == 92) with
    | true =>
     have hd := esc_at hlt (beq_iff_eq.1 e3)
     have hrun := Qea s (m + 1) ((m : Int) + 1) (by omega) (by omega)
     obtain ⟨u, hu⟩ : ∃ u, s.extract (m + 1) s.size = u := ⟨_, rfl⟩
     have hul : u.data.toList = s.data.toList.drop (m + 1) := by rw [← hu]; exact Qez s (m + 1)
     have hus : u.size ≤ 140737488355328 := by rw [Qbb, hul, Qca]; omega
     rw [hu] at hrun
     have HE := hide (Qjt u hus)
     clear hu
     cases he : escR (s.data.toList.drop (m + 1)) with
     | mk ev eb =>
      rw [hul, he] at HE
      cases eb
      ·
       have hno : ∀ d u, s.data.toList.drop (m + 1) = d :: u → esc d = none := fun d u h => by
        rw [h] at he
        cases hd2 : esc d with
        | none => rfl
        | some b => have := Qlh hd2; rw [show escR (d :: u) = escI (bv d) from rfl, this] at he; cases he
       have H := hide (show resT k (txRes (s.data.toList.drop (k + 1))) = ⟨0, ⟨#[]⟩, 0, 0, 0, 7, (m : Int)⟩ by
        unfold txRes; rw [htx, hd, Qtk _ hno]
        simp only [TR.app, resT]; congr 1; omega)
       clear htx hnil hown
       clear hd hno he
       go_wp2_with fail
       refine (Qa HE _).mono ?_
       rintro e w1 ⟨rfl, rfl⟩
       go_wp2_with fail
       refine (Qcb _ _ _).mono ?_
       rintro e w2 ⟨rfl, b2⟩
       obtain ⟨⟨x0, x1, x2, x3, y0, y1, fx, fy⟩, bw⟩ := Qa HBX w2 (hbel.trans (b2.mono (by omega)))
       clear HBX
       go_wp2_with fail
       refine bodyPost_ret (v := TV.val ⟨0, ⟨#[]⟩, 0, 0, 0, 7, (m : Int)⟩) (by simp [results, Tryz.results58, go_sem, x0, x1, x2, x3, y0, y1]) rfl ?_
       exact ⟨Qcn (Qa H).symm, Qah bw (Nat.le_refl _) (Nat.le_succ _) _ _ _ _ _ _⟩
      obtain ⟨d, b, hlt2, hdd, hev⟩ : ∃ d b, ∃ h : m + 1 < s.size, (s.data.toList.drop (m + 1) = d :: s.data.toList.drop (m + 2) ∧ esc d = some b) ∧ ev = (b.toNat : Int) := by
       by_cases h2 : m + 1 < s.size
       ·
        have e4 := Qaq s (m + 1) h2
        rw [e4, show escR (s[m + 1] :: _) = escI (bv s[m + 1]) from rfl] at he
        cases hd2 : esc s[m + 1] with
        | none => rw [Qsf hd2] at he; cases he
        | some b => rw [Qlh hd2] at he; injection he with he _; exact ⟨s[m + 1], b, h2, ⟨e4, hd2⟩, he.symm⟩
       · rw [Qck s (m + 1) (by omega)] at he; cases he
      have HT := hide (show txScan (s.data.toList.drop m) = (txScan (s.data.toList.drop (m + 2))).pre b 2 by
       rw [hd, hdd.1, tx_esc hdd.2])
      clear hd hdd he htx hnil hul
      subst hev
      go_wp2_with fail
      refine (Qa HE _).mono ?_
      rintro e w1 ⟨rfl, rfl⟩
      simp only []
      go_wp2_with (at_builtin; refine wpList_append_own _ rfl _ _ 51 rfl (w.heap.size + 2) 5 i0 (.int .u8 0) 1 1 Tryz.underlying51 (Qa HI).1 (Qa HI).2.1 (Qa HI).2.2.1 (Qa HI).2.2.2 rfl (by decide) _ _ _ rfl (hown.alloc _) ⟨_, 0, none⟩ 1 1 [.int .u8 (b.toNat : Int)] rfl rfl (Qif _ _) (Qla _) (by unfold maxLen; omega) (by omega) (by simp; omega) ?_; intro v' w3 hown' hgrow _)
      go_roundw
      case rel =>
       have := Qrk (n := 2) (c := b) rfl (by have := Qa HW0; omega) (Qa HH) (by omega) (by omega) (Qa HT) hown' hgrow
       rw [show ((m + 2 : Nat) : Int) = (m : Int) + 1 + 1 by omega] at this; exact this
      case measure => simp [intOf]; omega
    | false =>
     have n3 := beq_eq_false_iff_ne.1 e3
     have HT := hide (show txScan (s.data.toList.drop m) = (txScan (s.data.toList.drop (m + 1))).pre s[m] 1 by
      rw [Qaq s m hlt, Qtl (fun e => n1 (by rw [e]; rfl)) (fun e => n2 (by rw [e]; rfl)) (fun e => n3 (by rw [e]; rfl))])
     clear htx hnil
     go_wp2_with (at_builtin; refine wpList_append_own _ rfl _ _ 51 rfl (w.heap.size + 2) 5 i0 (.int .u8 0) 1 1 Tryz.underlying51 (Qa HI).1 (Qa HI).2.1 (Qa HI).2.2.1 (Qa HI).2.2.2 rfl (by decide) _ _ _ rfl (hown.alloc _) ⟨_, 0, none⟩ 1 1 [.int .u8 (s[m].toNat : Int)] rfl rfl (Qif _ _) (Qla _) (by unfold maxLen; omega) (by omega) (by simp; omega) ?_; intro v' w3 hown' hgrow _)
     go_roundw
     case rel =>
      have := Qrk (n := 1) (c := s[m]) rfl (by have := Qa HW0; omega) (Qa HH) (by omega) (by omega) (Qa HT) hown' hgrow
      simpa using this
     case measure => simp [intOf]; omega
 have H := hide (show resT k (txRes (s.data.toList.drop (k + 1))) = ⟨0, ⟨#[]⟩, 0, 0, 0, 7, (k : Int)⟩ by
  unfold txRes; rw [htx, Qck s m (by omega)]
  simp [txScan, TR.app, resT])
 clear htx hnil hown
 go_wp2_with fail
 refine (Qcb _ _ _).mono ?_
 rintro e w2 ⟨rfl, b2⟩
 obtain ⟨⟨x0, x1, x2, x3, y0, y1, fx, fy⟩, bw⟩ := Qa HBX w2 (hbel.trans (b2.mono (by omega)))
 clear HBX
 go_wp2_with fail
 refine bodyPost_ret (v := TV.val ⟨0, ⟨#[]⟩, 0, 0, 0, 7, (k : Int)⟩) (by simp [results, Tryz.results58, go_sem, x0, x1, x2, x3, y0, y1]) rfl ?_
 exact ⟨Qcn (Qa H).symm, Qah bw (Nat.le_refl _) (Nat.le_succ _) _ _ _ _ _ _⟩
end
section
open Go.RowKit
abbrev str (l : Txt) : Value := .string ⟨l.toArray⟩
def sgs : List Txt := twos ++ ones.map fun c => [c]
def SignsAt (w : World) : Prop := (∀ (i : Nat) (t : Txt), hds[i]? = some t → w.cell? ⟨0, i, none⟩ = some (str t)) ∧ (∀ (i : Nat) (t : Txt), sgs[i]? = some t → w.cell? ⟨1, i, none⟩ = some (str t))
theorem SignsAt.later {w w' : World} (h : SignsAt w) (hb : Below w.heap.size w w') : SignsAt w' :=
 ⟨fun i t ht => (hb.cell (World.block_lt_of_cell? w _ (h.1 i t ht))).trans (h.1 i t ht), fun i t ht => (hb.cell (World.block_lt_of_cell? w _ (h.2 i t ht))).trans (h.2 i t ht)⟩

theorem Qnq {α : Type} {l : List α} {p : α → Bool} (d : α) (h : ∀ j, j < l.length → p (l.getD j d) = false) : l.any p = false := by
 rw [List.any_eq_false]
 intro x hx
 obtain ⟨j, hj, rfl⟩ := List.mem_iff_getElem.1 hx
 have := h j hj
 rw [List.getD_eq_getElem?_getD, List.getElem?_eq_getElem hj] at this
 simpa using this
theorem Qno {α : Type} {l : List α} {p : α → Bool} (d : α) {j : Nat} (hj : j < l.length) (h : p (l.getD j d) = true) : l.any p = true := by
 rw [List.any_eq_true]
 refine ⟨l[j], List.getElem_mem hj, ?_⟩
 rw [List.getD_eq_getElem?_getD, List.getElem?_eq_getElem hj] at h
 simpa using h
theorem Qty {l : Txt} {k : Nat} (hk : k < 4) (hp : pre (hds.getD k []) l = true) (hn : noW (l.drop 5) = true) : sgLen l = 5 := by
 unfold sgLen isHd
 rw [Qno (p := fun h => pre h l) [] (show k < hds.length from hk) hp, hn]; rfl
theorem hd_none {l : Txt} (h : ∀ j, j < 4 → (pre (hds.getD j []) l && noW (l.drop 5)) = false) : isHd l = false := by
 unfold isHd
 cases hn : noW (l.drop 5) with
 | false => rw [Bool.and_false]
 | true =>
  rw [Qnq (p := fun h => pre h l) []]; · rfl
  intro j hj
  have := h j hj
  rwa [hn, Bool.and_true] at this
theorem Qkf {j : Nat} (h : j < 5) : sgs.getD j [] = twos.getD j [] ∧ (sgs.getD j []).length = 2 := by
 rcases (by omega : j = 0 ∨ j = 1 ∨ j = 2 ∨ j = 3 ∨ j = 4) with rfl | rfl | rfl | rfl | rfl <;> exact ⟨rfl, rfl⟩
theorem Qqr {j : Nat} (h : j < 18) : sgs.getD (5 + j) [] = [ones.getD j 0] := by
 rcases (by omega : j = 0 ∨ j = 1 ∨ j = 2 ∨ j = 3 ∨ j = 4 ∨ j = 5 ∨ j = 6 ∨ j = 7 ∨ j = 8 ∨ j = 9 ∨ j = 10 ∨ j = 11 ∨ j = 12 ∨ j = 13 ∨ j = 14 ∨ j = 15 ∨ j = 16 ∨ j = 17) with rfl | rfl | rfl | rfl | rfl | rfl | rfl | rfl | rfl | rfl | rfl | rfl | rfl | rfl | rfl | rfl | rfl | rfl <;> rfl
theorem Qjm {l : Txt} {k : Nat} (hk : 5 ≤ k) (h : ∀ j, j < k → pre (sgs.getD j []) l = false) : twos.any (fun h => pre h l) = false :=
 Qnq [] fun j hj => by
  have hj5 : j < 5 := hj
  have := h j (by omega)
  rwa [(Qkf hj5).1] at this
theorem sg_hit {l : Txt} {k : Nat} (hk : k < 23) (h0 : isHd l = false) (h : ∀ j, j < k → pre (sgs.getD j []) l = false) (hp : pre (sgs.getD k []) l = true) : sgLen l = (sgs.getD k []).length := by
 unfold sgLen
 rw [h0]
 by_cases h5 : k < 5
 · rw [Qno (l := twos) (p := fun h => pre h l) [] (show k < twos.length from h5) (by rw [← (Qkf h5).1]; exact hp), (Qkf h5).2]; rfl
 rw [Qjm (by omega) h]
 obtain ⟨j, rfl⟩ : ∃ j, k = 5 + j := ⟨k - 5, by omega⟩
 rw [Qqr (by omega)] at hp ⊢
 rw [Qno (l := ones) (p := fun c => pre [c] l) 0 (show j < ones.length by show j < 18; omega) hp]; rfl
theorem sg_none {l : Txt} (h0 : isHd l = false) (h : ∀ j, j < 23 → pre (sgs.getD j []) l = false) : sgLen l = 0 := by
 unfold sgLen
 rw [h0, Qjm (k := 23) (by omega) h, Qnq (l := ones) (p := fun c => pre [c] l) 0]
 · rfl
 intro j hj
 have hj : j < 18 := hj
 have := h (5 + j) (by omega)
 rwa [Qqr hj] at this

theorem noW_ext {u : ByteArray} : noW u.data.toList = if h : 0 < u.size then !inW (u[0].toNat : Int) else true := by
 by_cases h : 0 < u.size
 · rw [dif_pos h, Qii h]; rfl
 · rw [dif_neg h, Qld h]; rfl

abbrev hdA : Value := .agg #[str [46, 100, 101, 99, 108], str [46, 116, 121, 112, 101], str [46, 99, 111, 109, 112], str [46, 105, 110, 105, 116]]
theorem hdA_at {k : Nat} (h : k < 4) (w : World) : (Instr.index 174 hdA (.int .i64 (k : Int))).run Tryz.prog w = .ok (str (hds.getD k [])) w := by
 rcases (by omega : k = 0 ∨ k = 1 ∨ k = 2 ∨ k = 3) with rfl | rfl | rfl | rfl <;> kernel_rfl
theorem hd_len {k : Nat} (h : k < 4) : (hds.getD k []).length = 5 := by
 rcases (by omega : k = 0 ∨ k = 1 ∨ k = 2 ∨ k = 3) with rfl | rfl | rfl | rfl <;> rfl

abbrev sgA : Value := .agg #[str [58, 45], str [60, 58], str [60, 61], str [62, 61], str [33, 61], str [40], str [41], str [123], str [125], str [44], str [46], str [58], str [124], str [33], str [61], str [60], str [62], str [43], str [45], str [42], str [47], str [37], str [36]]
theorem sgA_at {k : Nat} (h : k < 23) (w : World) : (Instr.index 177 sgA (.int .i64 (k : Int))).run Tryz.prog w = .ok (str (sgs.getD k [])) w := by
 rcases (by omega : k = 0 ∨ k = 1 ∨ k = 2 ∨ k = 3 ∨ k = 4 ∨ k = 5 ∨ k = 6 ∨ k = 7 ∨ k = 8 ∨ k = 9 ∨ k = 10 ∨ k = 11 ∨ k = 12 ∨ k = 13 ∨ k = 14 ∨ k = 15 ∨ k = 16 ∨ k = 17 ∨ k = 18 ∨ k = 19 ∨ k = 20 ∨ k = 21 ∨ k = 22) with rfl | rfl | rfl | rfl | rfl | rfl | rfl | rfl | rfl | rfl | rfl | rfl | rfl | rfl | rfl | rfl | rfl | rfl | rfl | rfl | rfl | rfl | rfl <;> kernel_rfl

def hdLoad (x : Value) : Sem Value := Instr.loadAt 174 x
theorem Qpw (x : Value) : Instr.loadAt 174 x = hdLoad x := rfl
def sgLoad (x : Value) : Sem Value := Instr.loadAt 177 x
theorem Qqe (x : Value) : Instr.loadAt 177 x = sgLoad x := rfl
theorem size_hd : (Tryz.prog.info? 174).map (·.size) = some 4 := by kernel_rfl
theorem size_sg : (Tryz.prog.info? 177).map (·.size) = some 23 := by kernel_rfl
theorem hd_load {w : World} (h : SignsAt w) : (hdLoad (.pointer (some ⟨0, 0, none⟩))).run Tryz.prog w = .ok hdA w := by
 refine run_loadAt_mid w 0 0 174 (hds.map str) _ (fun q v hq => ?_) Tryz.underlying174 rfl size_hd
 rw [List.getElem?_map, Option.map_eq_some_iff] at hq
 obtain ⟨t, ht, rfl⟩ := hq
 rw [Nat.zero_add]
 exact h.1 q t ht
theorem sg_load {w : World} (h : SignsAt w) : (sgLoad (.pointer (some ⟨1, 0, none⟩))).run Tryz.prog w = .ok sgA w := by
 refine run_loadAt_mid w 1 0 177 (sgs.map str) _ (fun q v hq => ?_) Tryz.underlying177 rfl size_sg
 rw [List.getElem?_map, Option.map_eq_some_iff] at hq
 obtain ⟨t, ht, rfl⟩ := hq
 rw [Nat.zero_add]
 exact h.2 q t ht
attribute [local go_sem ↓] Qpw Qqe

theorem Qgj (s : ByteArray) (w : World) (h : SignsAt w) :
  Calls Tryz.prog 90 #[.string s] w fun e w' => e = .returned (.int .i64 (sgLen s.data.toList : Int)) ∧ w' = w := by
 have hld := hd_load h
 have HLS := hide (sg_load h)
 have HIX := hide (fun (k : Nat) (hk : k < 4) => hdA_at hk)
 have HIS := hide (fun (k : Nat) (hk : k < 23) => sgA_at hk)
 obtain ⟨A, hA⟩ : ∃ A, hdA = A := ⟨_, rfl⟩
 obtain ⟨S, hS⟩ : ∃ S, sgA = S := ⟨_, rfl⟩
 rw [hA] at hld HIX
 rw [hS] at HLS HIS
 clear h hA hS
 go_enter Tryz.func90, Tryz.ntmps90
 go_wp2
 clear hld
 go_loop [10] (fun i => ∃ k : Nat, i = .int .i64 (k : Int) ∧ k ≤ 4 ∧ Hid (∀ j, j < k → (pre (hds.getD j []) s.data.toList && noW (s.data.toList.drop 5)) = false)) (fun i => 4 - (intOf i).toNat)
 case atStart => exact ⟨0, rfl, by omega, hide fun j hj => absurd hj (Nat.not_lt_zero j)⟩
 obtain ⟨k, rfl, hk, HH⟩ := hrel
 by_cases hlt : k < 4
 ·
  have hidx := Qa HIX k hlt
  obtain ⟨p, hp⟩ : ∃ p : ByteArray, (⟨(hds.getD k []).toArray⟩ : ByteArray) = p := ⟨_, rfl⟩
  have hpl : p.data.toList = hds.getD k [] := by rw [← hp]
  have hps : p.size = 5 := by rw [Qbb, hpl, hd_len hlt]
  unfold str at hidx
  rw [hp] at hidx
  have HPL := hide hpl
  clear hp hpl
  cases hpre : pre (hds.getD k []) s.data.toList with
  | false =>
   have HC := hide (show Lib.hasPrefix s.data.toList p.data.toList = false by rw [Qa HPL]; exact hpre)
   have HN := hide (show ∀ j, j < k + 1 → (pre (hds.getD j []) s.data.toList && noW (s.data.toList.drop 5)) = false from fun j hj => by
    by_cases hjk : j < k
    · exact Qa HH j hjk
    · rw [show j = k by omega, hpre]; rfl)
   clear hpre
   go_wp2_with (go_at_call 109; refine (Tryz.strings_CutPrefix s p _).mono ?_; rintro e w' ⟨rfl, rfl⟩; rw [Qa HC])
   go_round
   case rel => exact ⟨k + 1, by go_num, by omega, HN⟩
   case measure => simp [intOf]; omega
  | true =>
   have HC := hide (show Lib.hasPrefix s.data.toList p.data.toList = true by rw [Qa HPL]; exact hpre)
   obtain ⟨u, hu⟩ : ∃ u : ByteArray, (⟨(Lib.trimPrefix s.data.toList p.data.toList).toArray⟩ : ByteArray) = u := ⟨_, rfl⟩
   have hul : u.data.toList = s.data.toList.drop 5 := by
    rw [← hu]
    show (Lib.trimPrefix s.data.toList p.data.toList) = _
    unfold Lib.trimPrefix
    rw [Qa HC, if_pos rfl, ← Qbb p, hps]
   have HU := hide hu
   have hno := noW_ext (u := u)
   rw [hul] at hno
   clear hu
   by_cases h0 : 0 < u.size
   ·
    rw [dif_pos h0] at hno
    have hne : u.toList.isEmpty = false := by rw [Lib.toList_data, Qii h0]; rfl
    cases hw : inW (u[0].toNat : Int) with
    | true =>
     have HN := hide (show ∀ j, j < k + 1 → (pre (hds.getD j []) s.data.toList && noW (s.data.toList.drop 5)) = false from fun j hj => by
      by_cases hjk : j < k
      · exact Qa HH j hjk
      · rw [hno, hw]; simp)
     clear hno hul hpre
     go_wp2_with (first
      | (go_at_call 109; refine (Tryz.strings_CutPrefix s p _).mono ?_; rintro e w' ⟨rfl, rfl⟩; rw [Qa HC, Qa HU])
      | (go_at_call 87; refine (Qap _ _).mono ?_; rintro e w' ⟨rfl, rfl⟩; rw [hw]))
     go_round
     case rel => exact ⟨k + 1, by go_num, by omega, HN⟩
     case measure => simp [intOf]; omega
    | false =>
     have H := hide (Qty hlt hpre (by rw [hno, hw]; rfl))
     clear hno hul hpre
     go_wp2_with (first
      | (go_at_call 109; refine (Tryz.strings_CutPrefix s p _).mono ?_; rintro e w' ⟨rfl, rfl⟩; rw [Qa HC, Qa HU])
      | (go_at_call 87; refine (Qap _ _).mono ?_; rintro e w' ⟨rfl, rfl⟩; rw [hw]))
     go_ret
     exact ⟨Qbi (by rw [Qa H]; omega), rfl⟩
   rw [dif_neg h0] at hno
   have H := hide (Qty hlt hpre hno)
   have he := Qld h0
   subst he
   clear hno hul hpre
   go_wp2_with (go_at_call 109; refine (Tryz.strings_CutPrefix s p _).mono ?_; rintro e w' ⟨rfl, rfl⟩; rw [Qa HC, Qa HU])
   go_ret
   exact ⟨Qbi (by rw [Qa H]; omega), rfl⟩
 have e4 : k = 4 := by omega
 subst e4
 have HD := hide (hd_none (Qa HH))
 clear HH
 have hls := Qa HLS
 go_wp2
 clear hls
 go_loop [34] (fun i => ∃ k : Nat, i = .int .i64 (k : Int) ∧ k ≤ 23 ∧ Hid (∀ j, j < k → pre (sgs.getD j []) s.data.toList = false)) (fun i => 23 - (intOf i).toNat)
 case atStart => exact ⟨0, rfl, by omega, hide fun j hj => absurd hj (Nat.not_lt_zero j)⟩
 obtain ⟨k, rfl, hk, HH⟩ := hrel
 by_cases hlt : k < 23
 ·
  have hidx := Qa HIS k hlt
  obtain ⟨p, hp⟩ : ∃ p : ByteArray, (⟨(sgs.getD k []).toArray⟩ : ByteArray) = p := ⟨_, rfl⟩
  have hpl : p.data.toList = sgs.getD k [] := by rw [← hp]
  unfold str at hidx
  rw [hp] at hidx
  have HPL := hide hpl
  clear hp hpl
  cases hpre : pre (sgs.getD k []) s.data.toList with
  | false =>
   have HC := hide (show Lib.hasPrefix s.data.toList p.data.toList = false by rw [Qa HPL]; exact hpre)
   have HN := hide (show ∀ j, j < k + 1 → pre (sgs.getD j []) s.data.toList = false from fun j hj => by
    by_cases hjk : j < k
    · exact Qa HH j hjk
    · rw [show j = k by omega, hpre])
   clear hpre
   go_wp2_with (go_at_call 51; refine (Tryz.strings_HasPrefix s p _).mono ?_; rintro e w' ⟨rfl, rfl⟩; rw [Qa HC])
   go_round
   case rel => exact ⟨k + 1, by go_num, by omega, HN⟩
   case measure => simp [intOf]; omega
  | true =>
   have HC := hide (show Lib.hasPrefix s.data.toList p.data.toList = true by rw [Qa HPL]; exact hpre)
   have H := hide (show sgLen s.data.toList = p.size by rw [sg_hit hlt (Qa HD) (Qa HH) hpre, Qbb, Qa HPL])
   clear hpre
   go_wp2_with (go_at_call 51; refine (Tryz.strings_HasPrefix s p _).mono ?_; rintro e w' ⟨rfl, rfl⟩; rw [Qa HC])
   go_ret
   exact ⟨Qbi (by rw [Qa H]), rfl⟩
 have e23 : k = 23 := by omega
 subst e23
 have H := hide (sg_none (Qa HD) (Qa HH))
 go_wp2
 go_ret
 exact ⟨Qbi (by rw [Qa H]; rfl), rfl⟩
end
section
open Go.RowKit
theorem Qqu (s : ByteArray) (k : Nat) (hk : k ≤ s.size) (hs : s.size ≤ 65536) (w : World) (hsg : SignsAt w) :
  Calls Tryz.prog 59 #[.string s, .int .i64 (k : Int)] w fun e w' => e = .returned (resT k (sgRes (s.data.toList.drop k))).val ∧ Below w.heap.size w w' := by
 have hb := Qdm w
 have HSG := hide (hsg.later hb)
 clear hsg
 have hle := sg_le (s.data.toList.drop k)
 rw [Qca] at hle
 obtain ⟨n, hn⟩ : ∃ n, sgLen (s.data.toList.drop k) = n := ⟨_, rfl⟩
 have hrun0 := Qea s k (k : Int) rfl hk
 obtain ⟨r, hr⟩ : ∃ r, s.extract k s.size = r := ⟨_, rfl⟩
 have hrl : r.data.toList = s.data.toList.drop k := by rw [← hr]; exact Qez s k
 rw [hr] at hrun0
 have HL := hide (show Calls Tryz.prog 90 #[.string r] ((w.alloc tokZ).alloc fltZ) fun e w' => e = .returned (.int .i64 (n : Int)) ∧ w' = (w.alloc tokZ).alloc fltZ by
  have := Qgj r _ (Qa HSG); rw [hrl, hn] at this; exact this)
 rw [hn] at hle
 clear hr hrl HSG
 by_cases h0 : n = 0
 ·
  have H := hide (show resT k (sgRes (s.data.toList.drop k)) = ⟨0, ⟨#[]⟩, 0, 0, 0, 7, (k : Int)⟩ by unfold sgRes; rw [hn, if_pos h0]; rfl)
  clear hn
  subst h0
  go_enter Tryz.func59, Tryz.ntmps59
  go_wp2_with fail
  refine (Qa HL).mono ?_
  rintro e w1 ⟨rfl, rfl⟩
  go_wp2_with fail
  refine (Qcb _ _ _).mono ?_
  rintro e w2 ⟨rfl, b2⟩
  have bx := Qal (w := w) (w2 := w2) (by simpa using b2)
  have bw : Below w.heap.size w w2 := hb.trans (b2.mono (by simp; omega))
  obtain ⟨x0, x1, x2, x3, y0, y1, fx, fy⟩ := bx
  clear b2 hb
  go_wp2_with fail
  refine bodyPost_ret (v := TV.val ⟨0, ⟨#[]⟩, 0, 0, 0, 7, (k : Int)⟩) (by simp [results, Tryz.results59, go_sem, x0, x1, x2, x3, y0, y1]) rfl ?_
  exact ⟨Qcn (Qa H).symm, Qah bw (Nat.le_refl _) (Nat.le_succ _) _ _ _ _ _ _⟩
 have hrun := Qfw s k n (k : Int) ((k : Int) + (n : Int)) rfl (by omega) (by omega)
 obtain ⟨u, hu⟩ : ∃ u, s.extract k (k + n) = u := ⟨_, rfl⟩
 have hul : u.data.toList = (s.data.toList.drop k).take n := by rw [← hu]; exact Qfm s k n
 have husz : u.size ≤ 140737488355328 := by rw [Qbb, hul, List.length_take]; omega
 rw [hu] at hrun
 have H := hide (show resT k (sgRes (s.data.toList.drop k)) = ⟨4, u, 0, (k : Int), (k : Int) + (n : Int), 0, 0⟩ by
  unfold sgRes; rw [hn, if_neg h0, ← hul]; exact Qlx k 4 u 0 n)
 have h0' : ((n : Int) == 0) = false := by rw [beq_eq_false_iff_ne]; omega
 clear hn hu hul
 go_enter Tryz.func59, Tryz.ntmps59
 go_wp2_with fail
 refine (Qa HL).mono ?_
 rintro e w1 ⟨rfl, rfl⟩
 go_wp2_with fail
 refine (Qih u _ husz).mono ?_
 rintro e w2 ⟨rfl, b2⟩
 have bx := Qal (w := w) (w2 := w2) (by simpa using b2)
 have bw : Below w.heap.size w w2 := hb.trans (b2.mono (by simp; omega))
 obtain ⟨x0, x1, x2, x3, y0, y1, fx, fy⟩ := bx
 clear b2 hb
 go_wp2_with fail
 refine bodyPost_ret (v := TV.val ⟨4, u, 0, (k : Int), (k : Int) + (n : Int), 0, 0⟩) (by simp [results, Tryz.results59, go_sem, x0, x1, x2, x3, y0, y1]) rfl ?_
 exact ⟨Qcn (Qa H).symm, Qah bw (Nat.le_refl _) (Nat.le_succ _) _ _ _ _ _ _⟩

structure Env (w : World) : Prop where
 sg : SignsAt w
 ml : ∃ m : Int, w.cell? ⟨2, 0, none⟩ = some (.int .i64 m)
 er : ∃ (t : TypeId) (p : Value), w.var? Tryz.prog "strconv.ErrRange" = some #[.iface t p]
theorem Env.later {w w' : World} (h : Env w) (hb : Below w.heap.size w w') : Env w' := by
 obtain ⟨m, hm⟩ := h.ml
 obtain ⟨t, p, hp⟩ := h.er
 exact ⟨h.sg.later hb, ⟨m, (hb.cell (World.block_lt_of_cell? w _ hm)).trans hm⟩, ⟨t, p, Qjo hp hb⟩⟩

theorem Qrh (s : ByteArray) (k : Nat) (hk : k < s.size) (hs : s.size ≤ 65536) (w : World) (hE : Env w) :
  Calls Tryz.prog 23 #[.string s, .int .i64 (k : Int)] w fun e w' => e = .returned (resT k (tokAt (s.data.toList.drop k))).val ∧ Below w.heap.size w w' := by
 have hb := Qdm w
 have hE1 := hE.later hb
 have HT := hide (show tokAt (s.data.toList.drop k) = if isL (bv s[k]) then nmRes (s.data.toList.drop k) else if isD (bv s[k]) then dgRes (s.data.toList.drop k) else if s[k] = 34 then txRes (s.data.toList.drop (k + 1)) else sgRes (s.data.toList.drop k) by
  rw [Qaq s k hk]; exact Qef _ _)
 have HE := hide hE1
 clear hE hE1
 cases hl : isL (s[k].toNat : Int) with
 | true =>
  have H := hide (show tokAt (s.data.toList.drop k) = nmRes (s.data.toList.drop k) by rw [Qa HT, if_pos (show isL (bv s[k]) = true from hl)])
  obtain ⟨T, hT⟩ : ∃ T, resT k (nmRes (s.data.toList.drop k)) = T := ⟨_, rfl⟩
  rw [Qa H, hT]
  have HC := hide (show ∀ w, Calls Tryz.prog 55 #[.string s, .int .i64 (k : Int)] w fun e w' => e = .returned T.val ∧ Below w.heap.size w w' by
   intro w; rw [← hT]; exact Qqi s k (by omega) hs w)
  clear H hT HT
  go_enter Tryz.func23, Tryz.ntmps23
  go_wp2_with fail
  refine (Qan _ _).mono ?_
  rintro e w1 ⟨rfl, rfl⟩
  rw [hl]
  go_wp2_with fail
  refine (Qa HC _).mono ?_
  rintro e w2 ⟨rfl, b2⟩
  have bx := Qal (w := w) (w2 := w2) (by simpa using b2)
  have bw : Below w.heap.size w w2 := hb.trans (b2.mono (by simp; omega))
  obtain ⟨x0, x1, x2, x3, y0, y1, fx, fy⟩ := bx
  clear b2 hb
  go_wp2_with fail
  refine bodyPost_ret (v := T.val) (by simp [results, Tryz.results23, go_sem, x0, x1, x2, x3, y0, y1]) rfl ?_
  exact ⟨rfl, Qah bw (Nat.le_refl _) (Nat.le_succ _) _ _ _ _ _ _⟩
 | false =>
  cases hd : isD (s[k].toNat : Int) with
  | true =>
   have H := hide (show tokAt (s.data.toList.drop k) = dgRes (s.data.toList.drop k) by rw [Qa HT, if_neg (by rw [show isL (bv s[k]) = false from hl]; simp), if_pos (show isD (bv s[k]) = true from hd)])
   obtain ⟨T, hT⟩ : ∃ T, resT k (dgRes (s.data.toList.drop k)) = T := ⟨_, rfl⟩
   rw [Qa H, hT]
   obtain ⟨t1, p1, hv⟩ := (Qa HE).er
   have HC := hide (show Calls Tryz.prog 57 #[.string s, .int .i64 (k : Int)] ((w.alloc tokZ).alloc fltZ) fun e w' => e = .returned T.val ∧ Below ((w.alloc tokZ).alloc fltZ).heap.size ((w.alloc tokZ).alloc fltZ) w' by
    rw [← hT]; exact Qkb s k hk hd hs _ hv)
   clear H hT HT hv
   go_enter Tryz.func23, Tryz.ntmps23
   go_wp2_with fail
   refine (Qan _ _).mono ?_
   rintro e w1 ⟨rfl, rfl⟩
   rw [hl]
   go_wp2_with fail
   refine (Qbw _ _).mono ?_
   rintro e w1 ⟨rfl, rfl⟩
   rw [hd]
   go_wp2_with fail
   refine (Qa HC).mono ?_
   rintro e w2 ⟨rfl, b2⟩
   have bx := Qal (w := w) (w2 := w2) (by simpa using b2)
   have bw : Below w.heap.size w w2 := hb.trans (b2.mono (by simp; omega))
   obtain ⟨x0, x1, x2, x3, y0, y1, fx, fy⟩ := bx
   clear b2 hb
   go_wp2_with fail
   refine bodyPost_ret (v := T.val) (by simp [results, Tryz.results23, go_sem, x0, x1, x2, x3, y0, y1]) rfl ?_
   exact ⟨rfl, Qah bw (Nat.le_refl _) (Nat.le_succ _) _ _ _ _ _ _⟩
  | false =>
   have H0 := hide (show tokAt (s.data.toList.drop k) = if s[k] = 34 then txRes (s.data.toList.drop (k + 1)) else sgRes (s.data.toList.drop k) by
    rw [Qa HT, if_neg (by rw [show isL (bv s[k]) = false from hl]; simp), if_neg (by rw [show isD (bv s[k]) = false from hd]; simp)])
   cases e1 : ((s[k].toNat : Int) == 34) with
   | true =>
    have H := hide (show tokAt (s.data.toList.drop k) = txRes (s.data.toList.drop (k + 1)) by rw [Qa H0, if_pos (show s[k] = 34 from (Qfk (k := 34) (by omega)).1 (beq_iff_eq.1 e1))])
    obtain ⟨T, hT⟩ : ∃ T, resT k (txRes (s.data.toList.drop (k + 1))) = T := ⟨_, rfl⟩
    rw [Qa H, hT]
    have HC := hide (show ∀ w, Calls Tryz.prog 58 #[.string s, .int .i64 (k : Int)] w fun e w' => e = .returned T.val ∧ Below w.heap.size w w' by
     intro w; rw [← hT]; exact Qrf s k hk hs w)
    clear H hT HT H0
    go_enter Tryz.func23, Tryz.ntmps23
    go_wp2_with fail
    refine (Qan _ _).mono ?_
    rintro e w1 ⟨rfl, rfl⟩
    rw [hl]
    go_wp2_with fail
    refine (Qbw _ _).mono ?_
    rintro e w1 ⟨rfl, rfl⟩
    rw [hd]
    go_wp2_with fail
    refine (Qa HC _).mono ?_
    rintro e w2 ⟨rfl, b2⟩
    have bx := Qal (w := w) (w2 := w2) (by simpa using b2)
    have bw : Below w.heap.size w w2 := hb.trans (b2.mono (by simp; omega))
    obtain ⟨x0, x1, x2, x3, y0, y1, fx, fy⟩ := bx
    clear b2 hb
    go_wp2_with fail
    refine bodyPost_ret (v := T.val) (by simp [results, Tryz.results23, go_sem, x0, x1, x2, x3, y0, y1]) rfl ?_
    exact ⟨rfl, Qah bw (Nat.le_refl _) (Nat.le_succ _) _ _ _ _ _ _⟩
   | false =>
    have H := hide (show tokAt (s.data.toList.drop k) = sgRes (s.data.toList.drop k) by rw [Qa H0, if_neg (fun e => beq_eq_false_iff_ne.1 e1 (by rw [e]; rfl))])
    obtain ⟨T, hT⟩ : ∃ T, resT k (sgRes (s.data.toList.drop k)) = T := ⟨_, rfl⟩
    rw [Qa H, hT]
    have HC := hide (show Calls Tryz.prog 59 #[.string s, .int .i64 (k : Int)] ((w.alloc tokZ).alloc fltZ) fun e w' => e = .returned T.val ∧ Below ((w.alloc tokZ).alloc fltZ).heap.size ((w.alloc tokZ).alloc fltZ) w' by
     rw [← hT]; exact Qqu s k (by omega) hs _ (Qa HE).sg)
    clear H hT HT H0
    go_enter Tryz.func23, Tryz.ntmps23
    go_wp2_with fail
    refine (Qan _ _).mono ?_
    rintro e w1 ⟨rfl, rfl⟩
    rw [hl]
    go_wp2_with fail
    refine (Qbw _ _).mono ?_
    rintro e w1 ⟨rfl, rfl⟩
    rw [hd]
    go_wp2_with fail
    refine (Qa HC).mono ?_
    rintro e w2 ⟨rfl, b2⟩
    have bx := Qal (w := w) (w2 := w2) (by simpa using b2)
    have bw : Below w.heap.size w w2 := hb.trans (b2.mono (by simp; omega))
    obtain ⟨x0, x1, x2, x3, y0, y1, fx, fy⟩ := bx
    clear b2 hb
    go_wp2_with fail
    refine bodyPost_ret (v := T.val) (by simp [results, Tryz.results23, go_sem, x0, x1, x2, x3, y0, y1]) rfl ?_
    exact ⟨rfl, Qah bw (Nat.le_refl _) (Nat.le_succ _) _ _ _ _ _ _⟩
end
end Go.Proofs.YtccehgfecaamoaaGreatDoor
