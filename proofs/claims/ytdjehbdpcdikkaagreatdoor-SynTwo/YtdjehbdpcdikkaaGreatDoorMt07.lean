/- What a token's walk answers; walks of a fault, a copy, a name and a number. Walks of a number. Walk of a text between quotes. -/
import Derived.Test.YtdjehbdpcdikkaaGreatDoorMt06
import Derived.Laws.AppendOwnNone
import Derived.Deep.AppendLies
import Derived.WalkSpells
namespace Go.Proofs.YtdjehbdpcdikkaaGreatDoor
open Go.RowKit

/-- What is answered of one token: the token, the place behind it, the fault. -/
structure TV where
 kd : Int
 tx : ByteArray
 nm : Int
 at_ : Int
 nd : Int
 why : Int
 fa : Int
abbrev TV.val (t : TV) : Value := .tuple #[.agg #[.int .i64 t.kd, .string t.tx, .int .i64 t.nm, .int .i64 t.at_], .int .i64 t.nd, .agg #[.int .i64 t.why, .int .i64 t.fa]]
def resT (k : Nat) : Res → TV
 | .tok kd tx nm n => ⟨kd, ⟨tx.toArray⟩, nm, (k : Int), ((k + n : Nat) : Int), 0, 0⟩
 | .bad why o => ⟨0, ⟨#[]⟩, 0, 0, 0, why, ((k + o : Nat) : Int)⟩

theorem resT_tok (k : Nat) (kd : Int) (u : ByteArray) (nm : Int) (n : Nat) : resT k (.tok kd u.data.toList nm n) = ⟨kd, u, nm, (k : Int), (k : Int) + (n : Int), 0, 0⟩ := by
 cases u; simp [resT]

abbrev tokZ : Obj := .cells #[.int .i64 0, .string ⟨#[]⟩, .int .i64 0, .int .i64 0] 43
abbrev fltZ : Obj := .cells #[.int .i64 0, .int .i64 0] 31
/-- Both results' boxes lie there as they were made. -/
structure Boxes (w : World) (b c : Nat) : Prop where
 x0 : w.cell? ⟨b, 0, none⟩ = some (.int .i64 0)
 x1 : w.cell? ⟨b, 1, none⟩ = some (.string ⟨#[]⟩)
 x2 : w.cell? ⟨b, 2, none⟩ = some (.int .i64 0)
 x3 : w.cell? ⟨b, 3, none⟩ = some (.int .i64 0)
 y0 : w.cell? ⟨c, 0, none⟩ = some (.int .i64 0)
 y1 : w.cell? ⟨c, 1, none⟩ = some (.int .i64 0)
 fx : ∀ o, w.frozen? ⟨b, o, none⟩ = false
 fy : ∀ o, w.frozen? ⟨c, o, none⟩ = false
theorem two_made (w : World) : Below w.heap.size w ((w.alloc tokZ).alloc fltZ) := ((Below.refl _ w).alloc (Nat.le_refl _) _).alloc (by simp) _
theorem boxes_later {w w2 : World} (h : Below (w.heap.size + 2) ((w.alloc tokZ).alloc fltZ) w2) : Boxes w2 w.heap.size (w.heap.size + 1) := by
 have hb : w2.heap[w.heap.size]? = some tokZ := by
  rw [h.block _ (by omega), Lib.alloc_old (w.alloc tokZ) _ _ (by simp)]
  exact heap_alloc_new w _
 have hc : w2.heap[w.heap.size + 1]? = some fltZ := by
  rw [h.block _ (by omega)]
  have := heap_alloc_new (w.alloc tokZ) fltZ
  rwa [show (w.alloc tokZ).heap.size = w.heap.size + 1 by simp] at this
 exact ⟨by rw [Lib.cell_of_heap hb]; rfl, by rw [Lib.cell_of_heap hb]; rfl, by rw [Lib.cell_of_heap hb]; rfl, by rw [Lib.cell_of_heap hb]; rfl,
  by rw [Lib.cell_of_heap hc]; rfl, by rw [Lib.cell_of_heap hc]; rfl, fun o => Lib.frozen_of_heap hb o, fun o => Lib.frozen_of_heap hc o⟩
theorem six_below {B : Nat} {w w2 : World} (h : Below B w w2) {b c : Nat} (hb : B ≤ b) (hc : B ≤ c) (q0 q1 q2 q3 q4 q5 : Value) :
  Below B w ((((((w2.setCell ⟨b, 0, none⟩ q0).setCell ⟨b, 1, none⟩ q1).setCell ⟨b, 2, none⟩ q2).setCell ⟨b, 3, none⟩ q3).setCell ⟨c, 0, none⟩ q4).setCell ⟨c, 1, none⟩ q5) :=
 (((((h.setCell (p := ⟨b, 0, none⟩) hb q0).setCell (p := ⟨b, 1, none⟩) hb q1).setCell (p := ⟨b, 2, none⟩) hb q2).setCell (p := ⟨b, 3, none⟩) hb q3).setCell (p := ⟨c, 0, none⟩) hc q4).setCell (p := ⟨c, 1, none⟩) hc q5

theorem ret_tv {a b : TV} (h : a = b) : Ending.returned a.val = .returned b.val := by rw [h]

set_option maxRecDepth 100000 in
set_option maxHeartbeats 1000000 in
theorem wrong_any (why a : Int) (w : World) :
  Calls Tryz.prog 125 #[.int .i64 why, .int .i64 a] w fun e w' => e = .returned (TV.val ⟨0, ⟨#[]⟩, 0, 0, 0, why, a⟩) ∧ Below w.heap.size w w' := by
 have hb := two_made w
 go_enter Tryz.func125, Tryz.ntmps125
 go_wp2_with fail
 refine bodyPost_ret (v := TV.val ⟨0, ⟨#[]⟩, 0, 0, 0, why, a⟩) (by simp [results, Tryz.results125, go_sem]) rfl ?_
 exact ⟨rfl, ((Below.refl _ w).alloc (Nat.le_refl _) _).alloc (by simp) _⟩

theorem clone_any (s : ByteArray) (w : World) (hlim : s.size ≤ 140737488355328) :
  Calls Tryz.prog 126 #[.string s] w fun e w' => e = .returned (.string s) ∧ Below w.heap.size w w' := by
 have HC := hide (Tryz.stringslite_Clone s w (by omega))
 go_enter Tryz.func126, Tryz.ntmps126
 go_wp2_with fail
 refine (unhide HC).mono ?_
 rintro e w' ⟨rfl, hb⟩
 go_wp2_with fail
 go_ret
 exact ⟨rfl, hb⟩

set_option maxRecDepth 100000 in
set_option maxHeartbeats 2000000 in
theorem nameT_any (s : ByteArray) (k : Nat) (hk : k ≤ s.size) (hs : s.size ≤ 65536) (w : World) :
  Calls Tryz.prog 102 #[.string s, .int .i64 (k : Int)] w fun e w' => e = .returned (resT k (nmRes (s.data.toList.drop k))).val ∧ Below w.heap.size w w' := by
 have hb := two_made w
 have hle := nm_le (s.data.toList.drop k)
 rw [len_drop] at hle
 obtain ⟨n, hn⟩ : ∃ n, nmLen (s.data.toList.drop k) = n := ⟨_, rfl⟩
 have HE := hide (show ∀ w, Calls Tryz.prog 124 #[.string s, .int .i64 (k : Int)] w fun e w' => e = .returned (.int .i64 ((k : Int) + (n : Int))) ∧ w' = w by
  intro w; have := nameEnd_any s k hk (by omega) w; rw [hn] at this; simpa using this)
 rw [hn] at hle
 by_cases h64 : 64 < n
 ·
  have H := hide (show resT k (nmRes (s.data.toList.drop k)) = ⟨0, ⟨#[]⟩, 0, 0, 0, 2, (k : Int)⟩ by unfold nmRes; rw [hn, if_pos h64]; rfl)
  clear hn
  go_enter Tryz.func102, Tryz.ntmps102
  go_wp2_with fail
  refine (unhide HE _).mono ?_
  rintro e w1 ⟨rfl, rfl⟩
  go_wp2_with fail
  refine (wrong_any _ _ _).mono ?_
  rintro e w2 ⟨rfl, b2⟩
  have bx := boxes_later (w := w) (w2 := w2) (by simpa using b2)
  have bw : Below w.heap.size w w2 := hb.trans (b2.mono (by simp; omega))
  obtain ⟨x0, x1, x2, x3, y0, y1, fx, fy⟩ := bx
  clear b2 hb
  go_wp2_with fail
  refine bodyPost_ret (v := TV.val ⟨0, ⟨#[]⟩, 0, 0, 0, 2, (k : Int)⟩) (by simp [results, Tryz.results102, go_sem, x0, x1, x2, x3, y0, y1]) rfl ?_
  exact ⟨ret_tv (unhide H).symm, six_below bw (Nat.le_refl _) (Nat.le_succ _) _ _ _ _ _ _⟩
 ·
  have hrun := run_piece s k n (k : Int) ((k : Int) + (n : Int)) rfl (by omega) (by omega)
  obtain ⟨u, hu⟩ : ∃ u, s.extract k (k + n) = u := ⟨_, rfl⟩
  have hul : u.data.toList = (s.data.toList.drop k).take n := by rw [← hu]; exact ext_piece s k n
  have husz : u.size ≤ 140737488355328 := by rw [size_len, hul, List.length_take]; omega
  rw [hu] at hrun
  have H := hide (show resT k (nmRes (s.data.toList.drop k)) = ⟨1, u, 0, (k : Int), (k : Int) + (n : Int), 0, 0⟩ by
   unfold nmRes; rw [hn, if_neg h64, ← hul]; exact resT_tok k 1 u 0 n)
  clear hn hu hul
  go_enter Tryz.func102, Tryz.ntmps102
  go_wp2_with fail
  refine (unhide HE _).mono ?_
  rintro e w1 ⟨rfl, rfl⟩
  go_wp2_with fail
  refine (clone_any u _ husz).mono ?_
  rintro e w2 ⟨rfl, b2⟩
  have bx := boxes_later (w := w) (w2 := w2) (by simpa using b2)
  have bw : Below w.heap.size w w2 := hb.trans (b2.mono (by simp; omega))
  obtain ⟨x0, x1, x2, x3, y0, y1, fx, fy⟩ := bx
  clear b2 hb
  go_wp2_with fail
  refine bodyPost_ret (v := TV.val ⟨1, u, 0, (k : Int), (k : Int) + (n : Int), 0, 0⟩) (by simp [results, Tryz.results102, go_sem, x0, x1, x2, x3, y0, y1]) rfl ?_
  exact ⟨ret_tv (unhide H).symm, six_below bw (Nat.le_refl _) (Nat.le_succ _) _ _ _ _ _ _⟩
end Go.Proofs.YtdjehbdpcdikkaaGreatDoor

namespace Go.Proofs.YtdjehbdpcdikkaaGreatDoor
open Go.RowKit

theorem var_below {w w' : World} {name : String} {x : Array Value} (h : w.var? Tryz.prog name = some x) (hb : Below w.heap.size w w') : w'.var? Tryz.prog name = some x := by
 unfold World.var? at *
 cases hg : Tryz.prog.globalNamed name with
 | none => rw [hg] at h; simp at h
 | some g =>
  rw [hg] at h
  simp only [Option.bind_some] at h ⊢
  by_cases hlt : g < w.heap.size
  · rw [hb.block g hlt]; exact h
  ·
   rw [Array.getElem?_eq_none (by omega)] at h
   simp at h

theorem vl_eq : ∀ (l : Txt) (acc : Nat), vl acc l = Num.valFrom acc l
 | [], _ => rfl
 | _ :: l, _ => vl_eq l _
theorem dig_D {c : UInt8} (h : isD (bv c) = true) : Num.dig c = true := by
 unfold isD bv at h
 unfold Num.dig
 simp only [Bool.and_eq_true, decide_eq_true_eq] at h ⊢
 omega
theorem dig_take : ∀ r : Txt, (r.take (dcn r)).all Num.dig = true
 | [] => rfl
 | c :: t => by
  cases h : isD (bv c) with
  | true =>
   have e : dcn (c :: t) = dcn t + 1 := by simp [dcn, h]
   rw [e, List.take_succ_cons, List.all_cons, dig_D h, dig_take t]; rfl
  | false =>
   have e : dcn (c :: t) = 0 := by simp [dcn, h]
   rw [e]; rfl
theorem dg_form {c : UInt8} {t : Txt} (h : isD (bv c) = true) :
  Num.numForm ((c :: t).take (dgLen (c :: t))) = true ∧ Num.numVal ((c :: t).take (dgLen (c :: t))) = (vl 0 ((c :: t).take (dgLen (c :: t))) : Int) := by
 by_cases h0 : c = 48
 ·
  subst h0
  have e : dgLen (48 :: t) = 1 := by rw [dg_cons, if_pos rfl]
  rw [e, show (48 :: t).take 1 = [48] from rfl]
  exact ⟨by decide, by decide⟩
 ·
  have e : dgLen (c :: t) = dcn (c :: t) := by rw [dg_cons, if_neg h0]
  have e2 : dcn (c :: t) = dcn t + 1 := by simp [dcn, h]
  rw [e]
  have hall := dig_take (c :: t)
  rw [e2, List.take_succ_cons] at hall ⊢
  have hc : ¬ c = 45 := by rintro rfl; exact absurd h (by decide)
  have hn : Num.isNeg (c :: t.take (dcn t)) = false := by simp [Num.isNeg, hc]
  have ht : Num.trim (c :: t.take (dcn t)) = c :: t.take (dcn t) := by
   rcases Num.trim_cases (c :: t.take (dcn t)) with h | h
   · rw [hn] at h; exact absurd h.1 (by simp)
   · exact h.2
  refine ⟨?_, ?_⟩
  ·
   by_cases hz : (c :: t.take (dcn t)) = [48]
   · exact absurd (by injection hz) h0
   · rw [Num.form_cons hz ht h0]; exact hall
  ·
   unfold Num.numVal
   rw [hn, ht, vl_eq]; rfl
theorem dg_parse {c : UInt8} {t : Txt} (h : isD (bv c) = true) : Num.parseP ((c :: t).take (dgLen (c :: t))) =
  if 9223372036854775807 < vl 0 ((c :: t).take (dgLen (c :: t))) then (0, 8) else ((vl 0 ((c :: t).take (dgLen (c :: t))) : Int), 0) := by
 obtain ⟨h1, h2⟩ := dg_form (t := t) h
 split
 ·
  rename_i hv
  exact Num.parse_out h1 (by rw [h2]; unfold Num.Fits; omega)
 ·
  rename_i hv
  rw [Num.parse_in h1 (by rw [h2]; unfold Num.Fits; omega), h2]

theorem noW_at {s : ByteArray} {m : Nat} (h : m < s.size) : noW (s.data.toList.drop m) = !inW (bv s[m]) := by rw [drop_at s m h]; rfl

set_option maxRecDepth 100000 in
set_option maxHeartbeats 2000000 in
theorem numberT_any (s : ByteArray) (k : Nat) (hk : k < s.size) (hd : isD (bv s[k]) = true) (hs : s.size ≤ 65536) (w : World) {t1 : TypeId} {p1 : Value}
  (hv1 : w.var? Tryz.prog "strconv.ErrRange" = some #[.iface t1 p1]) :
  Calls Tryz.prog 104 #[.string s, .int .i64 (k : Int)] w fun e w' => e = .returned (resT k (dgRes (s.data.toList.drop k))).val ∧ Below w.heap.size w w' := by
 have hb := two_made w
 have HV := hide (var_below hv1 hb)
 clear hv1
 have hle := dg_le (s.data.toList.drop k)
 rw [len_drop] at hle
 have hP := dg_parse (t := s.data.toList.drop (k + 1)) hd
 rw [← drop_at s k hk] at hP
 obtain ⟨n, hn⟩ : ∃ n, dgLen (s.data.toList.drop k) = n := ⟨_, rfl⟩
 have HE := hide (show ∀ w, Calls Tryz.prog 127 #[.string s, .int .i64 (k : Int)] w fun e w' => e = .returned (.int .i64 ((k : Int) + (n : Int))) ∧ w' = w by
  intro w; have := digitsEnd_any s k hk (by omega) w; rw [hn] at this; simpa using this)
 rw [hn] at hle hP
 have hrun := run_piece s k n (k : Int) ((k : Int) + (n : Int)) rfl (by omega) (by omega)
 obtain ⟨u, hu⟩ : ∃ u, s.extract k (k + n) = u := ⟨_, rfl⟩
 have hul : u.data.toList = (s.data.toList.drop k).take n := by rw [← hu]; exact ext_piece s k n
 have husz : u.size ≤ 281474976710656 := by rw [size_len, hul, List.length_take]; omega
 rw [hu] at hrun
 rw [← hul] at hP
 have HR := hide (show dgRes (s.data.toList.drop k) = if noW (s.data.toList.drop (k + n)) = false then .bad 7 n else if 9223372036854775807 < vl 0 u.data.toList then .bad 8 0 else .tok 2 [] (vl 0 u.data.toList) n by
  unfold dgRes; rw [hn, hul, List.drop_drop])
 clear hu hul hn
 have HP := hide hP
 clear hP
 by_cases hend : k + n < s.size
 ·
  cases hw : inW (s[k + n].toNat : Int) with
  | true =>
   have H := hide (show resT k (dgRes (s.data.toList.drop k)) = ⟨0, ⟨#[]⟩, 0, 0, 0, 7, (k : Int) + (n : Int)⟩ by
    rw [unhide HR, if_pos (by rw [noW_at hend, show inW (bv s[k + n]) = true from hw]; rfl)]; simp [resT])
   clear HR
   go_enter Tryz.func104, Tryz.ntmps104
   go_wp2_with fail
   refine (unhide HE _).mono ?_
   rintro e w1 ⟨rfl, rfl⟩
   go_wp2_with fail
   refine (inWord_any _ _).mono ?_
   rintro e w1 ⟨rfl, rfl⟩
   rw [hw]
   go_wp2_with fail
   refine (wrong_any _ _ _).mono ?_
   rintro e w2 ⟨rfl, b2⟩
   have bx := boxes_later (w := w) (w2 := w2) (by simpa using b2)
   have bw : Below w.heap.size w w2 := hb.trans (b2.mono (by simp; omega))
   obtain ⟨x0, x1, x2, x3, y0, y1, fx, fy⟩ := bx
   clear b2 hb
   go_wp2_with fail
   refine bodyPost_ret (v := TV.val ⟨0, ⟨#[]⟩, 0, 0, 0, 7, (k : Int) + (n : Int)⟩) (by simp [results, Tryz.results104, go_sem, x0, x1, x2, x3, y0, y1]) rfl ?_
   exact ⟨ret_tv (unhide H).symm, six_below bw (Nat.le_refl _) (Nat.le_succ _) _ _ _ _ _ _⟩
  | false =>
   have hno : noW (s.data.toList.drop (k + n)) = true := by rw [noW_at hend, show inW (bv s[k + n]) = false from hw]; rfl
   by_cases hv : 9223372036854775807 < vl 0 u.data.toList
   ·
    have H := hide (show resT k (dgRes (s.data.toList.drop k)) = ⟨0, ⟨#[]⟩, 0, 0, 0, 8, (k : Int)⟩ by
     rw [unhide HR, if_neg (by rw [hno]; simp), if_pos hv]; simp [resT])
    have HQ := hide (show Num.parseP u.data.toList = (0, 8) by rw [unhide HP, if_pos hv])
    clear HR HP hno hv
    go_enter Tryz.func104, Tryz.ntmps104
    go_wp2_with fail
    refine (unhide HE _).mono ?_
    rintro e w1 ⟨rfl, rfl⟩
    go_wp2_with fail
    refine (inWord_any _ _).mono ?_
    rintro e w1 ⟨rfl, rfl⟩
    rw [hw]
    go_wp2_with fail
    refine (Num.parse_any u _ husz (unhide HV)).mono ?_
    rintro e w1 ⟨rfl, b1⟩
    rw [unhide HQ]
    go_wp2_with fail
    refine (wrong_any _ _ _).mono ?_
    rintro e w2 ⟨rfl, b2'⟩
    have b2 := b1.trans (b2'.mono b1.size)
    clear b1 b2'
    have bx := boxes_later (w := w) (w2 := w2) (by simpa using b2)
    have bw : Below w.heap.size w w2 := hb.trans (b2.mono (by simp; omega))
    obtain ⟨x0, x1, x2, x3, y0, y1, fx, fy⟩ := bx
    clear b2 hb
    go_wp2_with fail
    refine bodyPost_ret (v := TV.val ⟨0, ⟨#[]⟩, 0, 0, 0, 8, (k : Int)⟩) (by simp [results, Tryz.results104, go_sem, x0, x1, x2, x3, y0, y1]) rfl ?_
    exact ⟨ret_tv (unhide H).symm, six_below bw (Nat.le_refl _) (Nat.le_succ _) _ _ _ _ _ _⟩
   ·
    have H := hide (show resT k (dgRes (s.data.toList.drop k)) = ⟨2, ⟨#[]⟩, (vl 0 u.data.toList : Int), (k : Int), (k : Int) + (n : Int), 0, 0⟩ by
     rw [unhide HR, if_neg (by rw [hno]; simp), if_neg hv]; simp [resT])
    have HQ := hide (show Num.parseP u.data.toList = ((vl 0 u.data.toList : Int), 0) by rw [unhide HP, if_neg hv])
    clear HR HP hno hv
    go_enter Tryz.func104, Tryz.ntmps104
    go_wp2_with fail
    refine (unhide HE _).mono ?_
    rintro e w1 ⟨rfl, rfl⟩
    go_wp2_with fail
    refine (inWord_any _ _).mono ?_
    rintro e w1 ⟨rfl, rfl⟩
    rw [hw]
    go_wp2_with fail
    refine (Num.parse_any u _ husz (unhide HV)).mono ?_
    rintro e w2 ⟨rfl, b2⟩
    rw [unhide HQ]
    obtain ⟨vv, hvv⟩ : ∃ vv : Int, (vl 0 u.data.toList : Int) = vv := ⟨_, rfl⟩
    rw [hvv] at H ⊢
    clear hvv HQ
    have bx := boxes_later (w := w) (w2 := w2) (by simpa using b2)
    have bw : Below w.heap.size w w2 := hb.trans (b2.mono (by simp; omega))
    obtain ⟨x0, x1, x2, x3, y0, y1, fx, fy⟩ := bx
    clear b2 hb
    go_wp2_with fail
    refine bodyPost_ret (v := TV.val ⟨2, ⟨#[]⟩, vv, (k : Int), (k : Int) + (n : Int), 0, 0⟩) (by simp [results, Tryz.results104, go_sem, x0, x1, x2, x3, y0, y1]) rfl ?_
    exact ⟨ret_tv (unhide H).symm, six_below bw (Nat.le_refl _) (Nat.le_succ _) _ _ _ _ _ _⟩
 ·
  have hno : noW (s.data.toList.drop (k + n)) = true := by rw [drop_end s (k + n) (by omega)]; rfl
  by_cases hv : 9223372036854775807 < vl 0 u.data.toList
  ·
   have H := hide (show resT k (dgRes (s.data.toList.drop k)) = ⟨0, ⟨#[]⟩, 0, 0, 0, 8, (k : Int)⟩ by
    rw [unhide HR, if_neg (by rw [hno]; simp), if_pos hv]; simp [resT])
   have HQ := hide (show Num.parseP u.data.toList = (0, 8) by rw [unhide HP, if_pos hv])
   clear HR HP hno hv
   go_enter Tryz.func104, Tryz.ntmps104
   go_wp2_with fail
   refine (unhide HE _).mono ?_
   rintro e w1 ⟨rfl, rfl⟩
   go_wp2_with fail
   refine (Num.parse_any u _ husz (unhide HV)).mono ?_
   rintro e w1 ⟨rfl, b1⟩
   rw [unhide HQ]
   go_wp2_with fail
   refine (wrong_any _ _ _).mono ?_
   rintro e w2 ⟨rfl, b2'⟩
   have b2 := b1.trans (b2'.mono b1.size)
   clear b1 b2'
   have bx := boxes_later (w := w) (w2 := w2) (by simpa using b2)
   have bw : Below w.heap.size w w2 := hb.trans (b2.mono (by simp; omega))
   obtain ⟨x0, x1, x2, x3, y0, y1, fx, fy⟩ := bx
   clear b2 hb
   go_wp2_with fail
   refine bodyPost_ret (v := TV.val ⟨0, ⟨#[]⟩, 0, 0, 0, 8, (k : Int)⟩) (by simp [results, Tryz.results104, go_sem, x0, x1, x2, x3, y0, y1]) rfl ?_
   exact ⟨ret_tv (unhide H).symm, six_below bw (Nat.le_refl _) (Nat.le_succ _) _ _ _ _ _ _⟩
  ·
   have H := hide (show resT k (dgRes (s.data.toList.drop k)) = ⟨2, ⟨#[]⟩, (vl 0 u.data.toList : Int), (k : Int), (k : Int) + (n : Int), 0, 0⟩ by
    rw [unhide HR, if_neg (by rw [hno]; simp), if_neg hv]; simp [resT])
   have HQ := hide (show Num.parseP u.data.toList = ((vl 0 u.data.toList : Int), 0) by rw [unhide HP, if_neg hv])
   clear HR HP hno hv
   go_enter Tryz.func104, Tryz.ntmps104
   go_wp2_with fail
   refine (unhide HE _).mono ?_
   rintro e w1 ⟨rfl, rfl⟩
   go_wp2_with fail
   refine (Num.parse_any u _ husz (unhide HV)).mono ?_
   rintro e w2 ⟨rfl, b2⟩
   rw [unhide HQ]
   obtain ⟨vv, hvv⟩ : ∃ vv : Int, (vl 0 u.data.toList : Int) = vv := ⟨_, rfl⟩
   rw [hvv] at H ⊢
   clear hvv HQ
   have bx := boxes_later (w := w) (w2 := w2) (by simpa using b2)
   have bw : Below w.heap.size w w2 := hb.trans (b2.mono (by simp; omega))
   obtain ⟨x0, x1, x2, x3, y0, y1, fx, fy⟩ := bx
   clear b2 hb
   go_wp2_with fail
   refine bodyPost_ret (v := TV.val ⟨2, ⟨#[]⟩, vv, (k : Int), (k : Int) + (n : Int), 0, 0⟩) (by simp [results, Tryz.results104, go_sem, x0, x1, x2, x3, y0, y1]) rfl ?_
   exact ⟨ret_tv (unhide H).symm, six_below bw (Nat.le_refl _) (Nat.le_succ _) _ _ _ _ _ _⟩
end Go.Proofs.YtdjehbdpcdikkaaGreatDoor

namespace Go.Proofs.YtdjehbdpcdikkaaGreatDoor
open Go.ChangeShapes Go.WideShapes Go.RowKit

def TR.app (bs : Txt) (k : Nat) : TR → TR
 | ok v n => ok (bs ++ v) (n + k)
 | bad o => bad (o + k)
 | never => never
theorem TR.app_nil (x : TR) : x.app [] 0 = x := by cases x <;> rfl
theorem TR.app_pre (bs : Txt) (k : Nat) (c : UInt8) (j : Nat) (x : TR) : (x.pre c j).app bs k = x.app (bs ++ [c]) (k + j) := by
 cases x with
 | ok v n => simp [TR.pre, TR.app]; omega
 | bad o => simp [TR.pre, TR.app]; omega
 | never => rfl

theorem tx_plain {c : UInt8} (h1 : ¬ c = 34) (h2 : ¬ c = 10) (h3 : ¬ c = 92) : ∀ t : Txt, txScan (c :: t) = (txScan t).pre c 1
 | [] => by simp [txScan, h1, h2, h3, TR.pre]
 | d :: u => by rw [txScan, if_neg h1, if_neg h2, if_neg h3]
theorem tx_quote : ∀ t : Txt, txScan (34 :: t) = .ok [] 1
 | [] => by simp [txScan]
 | d :: u => by rw [txScan, if_pos rfl]
theorem tx_line : ∀ t : Txt, txScan (10 :: t) = .bad 0
 | [] => by simp [txScan]
 | d :: u => by rw [txScan, if_neg (by decide), if_pos rfl]
theorem tx_esc {d b : UInt8} (h : esc d = some b) (u : Txt) : txScan (92 :: d :: u) = (txScan u).pre b 2 := by
 rw [txScan, if_neg (by decide), if_neg (by decide), if_pos rfl, h]
theorem tx_noesc : ∀ t : Txt, (∀ d u, t = d :: u → esc d = none) → txScan (92 :: t) = .bad 0
 | [], _ => by simp [txScan]
 | d :: u, h => by rw [txScan, if_neg (by decide), if_neg (by decide), if_pos rfl, h d u rfl]

def byteVals (l : List UInt8) : List Value := l.map fun b => Value.int .u8 (b.toNat : Int)
/-- A row of bytes that the call owns, as a string. -/
theorem conv_own {wr : World} {B : Nat} {v : Value} {bs : List UInt8} (hown : wr.ownsRow B 5 1 v bs.length (byteVals bs)) (hne : bs ≠ []) :
  (convert 104 9 v).run Tryz.prog wr = .ok (.string ⟨bs.toArray⟩) wr := by
 rcases hown.2 with ⟨_, h⟩ | ⟨g, cap, cur, rfl, hg, hheap, hle, hcap, hsz, htake⟩
 · exact absurd (List.eq_nil_of_length_eq_zero h) hne
 refine run_convert_bytes_back wr 104 9 5 ⟨g, 0, none⟩ cap bs Tryz.underlying104 Tryz.underlying5 Tryz.underlying9 fun j hj => ?_
 refine World.news_of_block hheap j _ ?_
 have h1 : (cur.toList.take (bs.length * 1))[j]? = (byteVals bs)[j]? := by rw [htake]
 rw [List.getElem?_take, if_pos (by omega)] at h1
 rw [h1]
 simp [byteVals, hj]
theorem conv_nil (w : World) : (convert 104 9 (.slice none 0 0)).run Tryz.prog w = .ok (.string ⟨#[]⟩) w := by
 rw [run_convert_bytes_string w 104 9 5 none 0 0 Tryz.underlying104 Tryz.underlying5 Tryz.underlying9]
 simp [Conv.bytesToString]
 rfl
theorem info5 : (Tryz.prog.info? 5).map (fun i => (i.zero, i.size, i.bytes)) = some (some (.int .u8 0), 1, 1) := by kernel_rfl

/-- What holds at every round's head, from base B and world W0 on. -/
def TxRel (s : ByteArray) (k B : Nat) (W0 : World) (v i : Value) (wr : World) : Prop :=
 ∃ (m : Nat) (bs : Txt), i = .int .i64 (m : Int) ∧ Hid (k + 1 ≤ m ∧ m ≤ s.size ∧ bs.length ≤ m ∧ wr.ownsRow B 5 1 v bs.length (byteVals bs) ∧ Below B W0 wr ∧
  txScan (s.data.toList.drop (k + 1)) = (txScan (s.data.toList.drop m)).app bs (m - (k + 1)) ∧ (bs = [] → v = .slice none 0 0))

theorem tx_next {s : ByteArray} {k B m n : Nat} {W0 wr w2 : World} {v v' : Value} {bs : Txt} {c : UInt8} {x : Int} (hx : x = (c.toNat : Int)) (hB : B ≤ W0.heap.size)
  (h : k + 1 ≤ m ∧ m ≤ s.size ∧ bs.length ≤ m ∧ wr.ownsRow B 5 1 v bs.length (byteVals bs) ∧ Below B W0 wr ∧ txScan (s.data.toList.drop (k + 1)) = (txScan (s.data.toList.drop m)).app bs (m - (k + 1)) ∧ (bs = [] → v = .slice none 0 0))
  (hn : 0 < n) (hm : m + n ≤ s.size) (ht : txScan (s.data.toList.drop m) = (txScan (s.data.toList.drop (m + n))).pre c n)
  (hown : w2.ownsRow B 5 1 v' (bs.length + 1) (byteVals bs ++ [.int .u8 x])) (hgrow : (wr.alloc (.cells #[.int .u8 x] 5)).grownBy w2 v.ownBlock) :
  TxRel s k B W0 v' (.int .i64 ((m + n : Nat) : Int)) w2 := by
 obtain ⟨h1, h2, h3, h4, h5, h6, h7⟩ := h
 refine ⟨m + n, bs ++ [c], rfl, hide ⟨by omega, hm, by rw [List.length_append]; simp; omega, ?_, ?_, ?_, fun h => absurd h (by simp)⟩⟩
 ·
  have e : byteVals (bs ++ [c]) = byteVals bs ++ [.int .u8 x] := by rw [hx]; simp [byteVals]
  rw [e, List.length_append]; exact hown
 ·
  have hsz := h5.size
  exact (h5.alloc (by omega) _).grown hgrow (by simp; omega) (fun j hj => (h4.lt j hj).1)
 ·
  rw [h6, ht, TR.app_pre]
  congr 1
  omega

theorem byte_cell (wr : World) (x : Value) : ∀ j u, ([x] : List Value)[j]? = some u → (wr.alloc (.cells #[x] 5)).cell? ((⟨wr.heap.size, 0, none⟩ : Addr).add j) = some u := by
 intro j u hj
 match j, hj with
 | 0, hj => simp at hj; subst hj; simp [Addr.add]
theorem byte_one (x : Int) : ∀ u ∈ ([.int .u8 x] : List Value), u.oneCell' = true := by
 intro u hu; simp at hu; subst hu; rfl
theorem esc_at {s : ByteArray} {m : Nat} (h : m < s.size) (h92 : bv s[m] = 92) : s.data.toList.drop m = 92 :: s.data.toList.drop (m + 1) := by
 have e : s[m] = 92 := (bv_eq (k := 92) (by omega)).1 h92
 rw [drop_at s m h, e]
theorem info_parts5 : ∃ i0 : TypeInfo, Tryz.prog.info? 5 = some i0 ∧ i0.zero = some (.int .u8 0) ∧ i0.size = 1 ∧ i0.bytes = 1 := by
 obtain ⟨i0, hi, hi3⟩ := Option.map_eq_some_iff.1 info5
 simp only [Prod.mk.injEq] at hi3
 exact ⟨i0, hi, hi3⟩

set_option maxRecDepth 100000 in
set_option maxHeartbeats 4000000 in
theorem textT_any (s : ByteArray) (k : Nat) (hk : k < s.size) (hs : s.size ≤ 65536) (w : World) :
  Calls Tryz.prog 105 #[.string s, .int .i64 (k : Int)] w fun e w' => e = .returned (resT k (txRes (s.data.toList.drop (k + 1)))).val ∧ Below w.heap.size w w' := by
 have hb := two_made w
 obtain ⟨i0, hi, hz0, hz1, hz2⟩ := info_parts5
 have HI := hide (show Tryz.prog.info? 5 = some i0 ∧ i0.zero = some (.int .u8 0) ∧ i0.size = 1 ∧ i0.bytes = 1 from ⟨hi, hz0, hz1, hz2⟩)
 clear hi hz0 hz1 hz2
 obtain ⟨W0, hW0⟩ : ∃ W0, (w.alloc tokZ).alloc fltZ = W0 := ⟨_, rfl⟩
 have hW0s : W0.heap.size = w.heap.size + 2 := by rw [← hW0]; simp
 have HBX := hide (show ∀ w2, Below (w.heap.size + 2) W0 w2 → Boxes w2 w.heap.size (w.heap.size + 1) ∧ Below w.heap.size w w2 from fun w2 h => by
  rw [← hW0] at h
  exact ⟨boxes_later h, hb.trans (h.mono (by omega))⟩)
 have HW0 := hide hW0s
 go_enter Tryz.func105, Tryz.ntmps105
 go_wp2
 clear hW0 hW0s hb
 go_loopw [7, 8] (fun v i wr => TxRel s k (w.heap.size + 2) W0 v i wr) (fun _ i _ => s.size - (intOf i).toNat)
 case atStart => exact ⟨k + 1, [], by go_num, hide ⟨Nat.le_refl _, by omega, Nat.zero_le _, World.ownsRow_nil _ _ _ _, Below.refl _ _, by rw [Nat.sub_self, TR.app_nil], fun _ => rfl⟩⟩
 case round =>
  obtain ⟨m, bs, rfl, HH⟩ := hrel
  obtain ⟨hkm, hms, hbl, hown, hbel, htx, hnil⟩ := unhide HH
  have hsz := hbel.size
  rw [unhide HW0] at hsz
  by_cases hlt : m < s.size
  ·
   cases e1 : ((s[m].toNat : Int) == 34) with
   | true =>
    by_cases hbs : bs = []
    ·
     have H := hide (show resT k (txRes (s.data.toList.drop (k + 1))) = ⟨3, ⟨bs.toArray⟩, 0, (k : Int), (m : Int) + 1, 0, 0⟩ by
      unfold txRes; rw [htx, (show s.data.toList.drop m = 34 :: s.data.toList.drop (m + 1) by rw [drop_at s m hlt, (bv_eq (k := 34) (by omega)).1 (beq_iff_eq.1 e1)]; rfl), tx_quote]
      simp only [TR.app, resT, List.append_nil]; congr 1; omega)
     obtain ⟨⟨x0, x1, x2, x3, y0, y1, fx, fy⟩, bw⟩ := unhide HBX wr hbel
     have hv := hnil hbs
     subst hv hbs
     have hcv := conv_nil wr
     clear htx hnil hown HBX
     go_wp2_with fail
     refine bodyPost_ret (v := TV.val ⟨3, ⟨#[]⟩, 0, (k : Int), (m : Int) + 1, 0, 0⟩) (by simp [results, Tryz.results105, go_sem, x0, x1, x2, x3, y0, y1]) rfl ?_
     exact ⟨ret_tv (unhide H).symm, six_below bw (Nat.le_refl _) (Nat.le_succ _) _ _ _ _ _ _⟩
    ·
     have H := hide (show resT k (txRes (s.data.toList.drop (k + 1))) = ⟨3, ⟨bs.toArray⟩, 0, (k : Int), (m : Int) + 1, 0, 0⟩ by
      unfold txRes; rw [htx, (show s.data.toList.drop m = 34 :: s.data.toList.drop (m + 1) by rw [drop_at s m hlt, (bv_eq (k := 34) (by omega)).1 (beq_iff_eq.1 e1)]; rfl), tx_quote]
      simp only [TR.app, resT, List.append_nil]; congr 1; omega)
     obtain ⟨⟨x0, x1, x2, x3, y0, y1, fx, fy⟩, bw⟩ := unhide HBX wr hbel
     have hcv := conv_own hown hbs
     clear htx hnil hown hbs HBX
     go_wp2_with fail
     refine bodyPost_ret (v := TV.val ⟨3, ⟨bs.toArray⟩, 0, (k : Int), (m : Int) + 1, 0, 0⟩) (by simp [results, Tryz.results105, go_sem, x0, x1, x2, x3, y0, y1]) rfl ?_
     exact ⟨ret_tv (unhide H).symm, six_below bw (Nat.le_refl _) (Nat.le_succ _) _ _ _ _ _ _⟩
   | false =>
    have n1 := beq_eq_false_iff_ne.1 e1
    cases e2 : ((s[m].toNat : Int) == 10) with
    | true =>
     have H := hide (show resT k (txRes (s.data.toList.drop (k + 1))) = ⟨0, ⟨#[]⟩, 0, 0, 0, 7, (m : Int)⟩ by
      unfold txRes; rw [htx, (show s.data.toList.drop m = 10 :: s.data.toList.drop (m + 1) by rw [drop_at s m hlt, (bv_eq (k := 10) (by omega)).1 (beq_iff_eq.1 e2)]; rfl), tx_line]
      simp only [TR.app, resT]; congr 1; omega)
     clear htx hnil hown
     go_wp2_with fail
     refine (wrong_any _ _ _).mono ?_
     rintro e w2 ⟨rfl, b2⟩
     obtain ⟨⟨x0, x1, x2, x3, y0, y1, fx, fy⟩, bw⟩ := unhide HBX w2 (hbel.trans (b2.mono (by omega)))
     clear HBX
     go_wp2_with fail
     refine bodyPost_ret (v := TV.val ⟨0, ⟨#[]⟩, 0, 0, 0, 7, (m : Int)⟩) (by simp [results, Tryz.results105, go_sem, x0, x1, x2, x3, y0, y1]) rfl ?_
     exact ⟨ret_tv (unhide H).symm, six_below bw (Nat.le_refl _) (Nat.le_succ _) _ _ _ _ _ _⟩
    | false =>
     have n2 := beq_eq_false_iff_ne.1 e2
     cases e3 : ((s[m].toNat : Int) == 92) with
     | true =>
      have hd := esc_at hlt (beq_iff_eq.1 e3)
      have hrun := run_tail s (m + 1) ((m : Int) + 1) (by omega) (by omega)
      obtain ⟨u, hu⟩ : ∃ u, s.extract (m + 1) s.size = u := ⟨_, rfl⟩
      have hul : u.data.toList = s.data.toList.drop (m + 1) := by rw [← hu]; exact ext_drop s (m + 1)
      have hus : u.size ≤ 140737488355328 := by rw [size_len, hul, len_drop]; omega
      rw [hu] at hrun
      have HE := hide (escaped_any u hus)
      clear hu
      cases he : escR (s.data.toList.drop (m + 1)) with
      | mk ev eb =>
       rw [hul, he] at HE
       cases eb with
       | false =>
        have hno : ∀ d u, s.data.toList.drop (m + 1) = d :: u → esc d = none := fun d u h => by
         rw [h] at he
         cases hd2 : esc d with
         | none => rfl
         | some b => have := esc_some hd2; rw [show escR (d :: u) = escI (bv d) from rfl, this] at he; cases he
        have H := hide (show resT k (txRes (s.data.toList.drop (k + 1))) = ⟨0, ⟨#[]⟩, 0, 0, 0, 7, (m : Int)⟩ by
         unfold txRes; rw [htx, hd, tx_noesc _ hno]
         simp only [TR.app, resT]; congr 1; omega)
        clear htx hnil hown
        clear hd hno he
        go_wp2_with fail
        refine (unhide HE _).mono ?_
        rintro e w1 ⟨rfl, rfl⟩
        go_wp2_with fail
        refine (wrong_any _ _ _).mono ?_
        rintro e w2 ⟨rfl, b2⟩
        obtain ⟨⟨x0, x1, x2, x3, y0, y1, fx, fy⟩, bw⟩ := unhide HBX w2 (hbel.trans (b2.mono (by omega)))
        clear HBX
        go_wp2_with fail
        refine bodyPost_ret (v := TV.val ⟨0, ⟨#[]⟩, 0, 0, 0, 7, (m : Int)⟩) (by simp [results, Tryz.results105, go_sem, x0, x1, x2, x3, y0, y1]) rfl ?_
        exact ⟨ret_tv (unhide H).symm, six_below bw (Nat.le_refl _) (Nat.le_succ _) _ _ _ _ _ _⟩
       | true =>
        obtain ⟨d, b, hlt2, hdd, hev⟩ : ∃ d b, ∃ h : m + 1 < s.size, (s.data.toList.drop (m + 1) = d :: s.data.toList.drop (m + 2) ∧ esc d = some b) ∧ ev = (b.toNat : Int) := by
         by_cases h2 : m + 1 < s.size
         ·
          have e4 := drop_at s (m + 1) h2
          rw [e4, show escR (s[m + 1] :: _) = escI (bv s[m + 1]) from rfl] at he
          cases hd2 : esc s[m + 1] with
          | none => rw [esc_none hd2] at he; cases he
          | some b => rw [esc_some hd2] at he; injection he with he _; exact ⟨s[m + 1], b, h2, ⟨e4, hd2⟩, he.symm⟩
         · rw [drop_end s (m + 1) (by omega)] at he; cases he
        have HT := hide (show txScan (s.data.toList.drop m) = (txScan (s.data.toList.drop (m + 2))).pre b 2 by
         rw [hd, hdd.1, tx_esc hdd.2])
        clear hd hdd he htx hnil hul
        subst hev
        go_wp2_with fail
        refine (unhide HE _).mono ?_
        rintro e w1 ⟨rfl, rfl⟩
        simp only []
        go_wp2_with (at_builtin; refine wpList_append_own _ rfl _ _ 104 rfl (w.heap.size + 2) 5 i0 (.int .u8 0) 1 1 Tryz.underlying104 (unhide HI).1 (unhide HI).2.1 (unhide HI).2.2.1 (unhide HI).2.2.2 rfl (by decide) _ _ _ rfl (hown.alloc _) ⟨_, 0, none⟩ 1 1 [.int .u8 (b.toNat : Int)] rfl rfl (byte_cell _ _) (byte_one _) (by unfold maxLen; omega) (by omega) (by simp; omega) ?_; intro v' w3 hown' hgrow _)
        go_roundw
        case rel =>
         have := tx_next (n := 2) (c := b) rfl (by have := unhide HW0; omega) (unhide HH) (by omega) (by omega) (unhide HT) hown' hgrow
         rw [show ((m + 2 : Nat) : Int) = (m : Int) + 1 + 1 by omega] at this; exact this
        case measure => simp [intOf]; omega
     | false =>
      have n3 := beq_eq_false_iff_ne.1 e3
      have HT := hide (show txScan (s.data.toList.drop m) = (txScan (s.data.toList.drop (m + 1))).pre s[m] 1 by
       rw [drop_at s m hlt, tx_plain (fun e => n1 (by rw [e]; rfl)) (fun e => n2 (by rw [e]; rfl)) (fun e => n3 (by rw [e]; rfl))])
      clear htx hnil
      go_wp2_with (at_builtin; refine wpList_append_own _ rfl _ _ 104 rfl (w.heap.size + 2) 5 i0 (.int .u8 0) 1 1 Tryz.underlying104 (unhide HI).1 (unhide HI).2.1 (unhide HI).2.2.1 (unhide HI).2.2.2 rfl (by decide) _ _ _ rfl (hown.alloc _) ⟨_, 0, none⟩ 1 1 [.int .u8 (s[m].toNat : Int)] rfl rfl (byte_cell _ _) (byte_one _) (by unfold maxLen; omega) (by omega) (by simp; omega) ?_; intro v' w3 hown' hgrow _)
      go_roundw
      case rel =>
       have := tx_next (n := 1) (c := s[m]) rfl (by have := unhide HW0; omega) (unhide HH) (by omega) (by omega) (unhide HT) hown' hgrow
       simpa using this
      case measure => simp [intOf]; omega
  ·
   have H := hide (show resT k (txRes (s.data.toList.drop (k + 1))) = ⟨0, ⟨#[]⟩, 0, 0, 0, 7, (k : Int)⟩ by
    unfold txRes; rw [htx, drop_end s m (by omega)]
    simp [txScan, TR.app, resT])
   clear htx hnil hown
   go_wp2_with fail
   refine (wrong_any _ _ _).mono ?_
   rintro e w2 ⟨rfl, b2⟩
   obtain ⟨⟨x0, x1, x2, x3, y0, y1, fx, fy⟩, bw⟩ := unhide HBX w2 (hbel.trans (b2.mono (by omega)))
   clear HBX
   go_wp2_with fail
   refine bodyPost_ret (v := TV.val ⟨0, ⟨#[]⟩, 0, 0, 0, 7, (k : Int)⟩) (by simp [results, Tryz.results105, go_sem, x0, x1, x2, x3, y0, y1]) rfl ?_
   exact ⟨ret_tv (unhide H).symm, six_below bw (Nat.le_refl _) (Nat.le_succ _) _ _ _ _ _ _⟩
end Go.Proofs.YtdjehbdpcdikkaaGreatDoor
