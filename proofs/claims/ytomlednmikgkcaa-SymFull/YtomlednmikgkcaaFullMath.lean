/- The texts of a full table, and the three bytes that make them. -/
import Derived.Test.YtomlednmikgkcaaBoth
import Derived.Laws.IdiomStrings
import Derived.BigQuiet
namespace Go.Proofs.Ytomlednmikgkcaa
open Go.RowKit Go.Maps

/-- The i-th text of a full table. -/
def tx (i : Nat) : ByteArray := ⟨#[UInt8.ofNat (i / 256), UInt8.ofNat i, 7]⟩
def fs (k : Nat) : List ByteArray := (List.range k).map tx

theorem tx_size (k : Nat) : (tx k).size ≤ 281474976710656 := by
  have e : (tx k).size = 3 := rfl
  omega
theorem fs_length (k : Nat) : (fs k).length = k := by simp [fs]
theorem fs_succ (k : Nat) : fs (k + 1) = fs k ++ [tx k] := by simp [fs, List.range_succ]
theorem fs_at {k j : Nat} (h : j < k) : (fs k)[j]? = some (tx j) := by simp [fs, h]
theorem tx_inj {i j : Nat} (hi : i < 16384) (hj : j < 16384) (h : tx i = tx j) : i = j := by
  have h1 : (#[UInt8.ofNat (i / 256), UInt8.ofNat i, 7] : Array UInt8) = #[UInt8.ofNat (j / 256), UInt8.ofNat j, 7] := congrArg ByteArray.data h
  simp at h1
  obtain ⟨h2, h3⟩ := h1
  have e2 := congrArg UInt8.toNat h2
  have e3 := congrArg UInt8.toNat h3
  simp at e2 e3
  omega
theorem fs_new {k : Nat} (hk : k < 16384) : there (fs k) (tx k) = false :=
  (there_out (fun j hj => by
    rw [fs_length] at hj
    rw [fs_at hj]
    intro e
    have e2 : tx j = tx k := Option.some.inj e
    have := tx_inj (by omega) hk e2
    omega)).1
theorem fs_put {k : Nat} (hk : k < 16384) : put (fs k) (tx k) = fs (k + 1) ∧ ansN (fs k) (tx k) = k ∧ ansE (fs k) (tx k) = 0 := by
  have h1 := fs_new hk
  have h2 := fs_length k
  unfold put ansN ansE
  rw [h1, h2]
  simp only [Bool.false_eq_true, if_false, show ¬ 16384 ≤ k by omega]
  exact ⟨(fs_succ k).symm, trivial, trivial⟩
/-- A full table: it takes nothing, knows its own. -/
theorem full_facts (s : ByteArray) : ∃ zs : List ByteArray, fs 16384 = zs ∧ zs.length = 16384 ∧ put zs s = zs ∧ (there zs s = false → ansN zs s = 0 ∧ ansE zs s = 18) ∧
    (there zs s = true → ansE zs s = 0 ∧ ∃ i, i < 16384 ∧ ansN zs s = i ∧ s = tx i) := by
  obtain ⟨n, hn⟩ : ∃ n, n = 16384 := ⟨_, rfl⟩
  refine ⟨fs n, by rw [hn], by rw [fs_length, hn], ?_, ?_, ?_⟩
  · unfold put
    rw [fs_length, if_pos (show 16384 ≤ n by omega)]
    split <;> rfl
  · intro h
    unfold ansN ansE
    rw [h, fs_length, if_pos (show 16384 ≤ n by omega), if_pos (show 16384 ≤ n by omega)]
    exact ⟨rfl, rfl⟩
  · intro h
    obtain ⟨h1, h2⟩ := num_at h
    rw [fs_length] at h2
    rw [fs_at h2] at h1
    unfold ansN ansE
    rw [h]
    exact ⟨rfl, num (fs n) s, by omega, rfl, (Option.some.inj h1).symm⟩

theorem below_drewN2 (B : Nat) (w : World) (n : Nat) : Below B w (w.drewN n) := ⟨rfl, rfl, rfl, Nat.le_refl _, fun _ _ => rfl⟩
theorem or_i64 (a b : Nat) (h : a < 4294967296) (h2 : b < 4294967296) (h3 : a ||| b < 4294967296) : bits BinOp.or IntKind.i64 (a : Int) (b : Int) = ((a ||| b : Nat) : Int) := by
  have e1 : a % 2 ^ IntKind.i64.bits = a := Nat.mod_eq_of_lt (Nat.lt_trans h (by decide))
  have e2 : b % 2 ^ IntKind.i64.bits = b := Nat.mod_eq_of_lt (Nat.lt_trans h2 (by decide))
  simp only [bits, BitVec.ofInt_natCast, BitVec.toNat_or, BitVec.toNat_ofNat, e1, e2]
  rw [IntKind.wrap_i64]
  omega
/-- A text's first two bytes make its number again. -/
theorem or_back {i : Nat} (hi : i < 16384) (h0 : 0 < (tx i).size) (h1 : 1 < (tx i).size) : ((i : Int) == bits BinOp.or IntKind.i64 (wrap64 (wrap64 ((tx i)[0].toNat : Int) * 256)) (wrap64 ((tx i)[1].toNat : Int))) = true := by
  have e0 : (tx i)[0].toNat = i / 256 := by
    show (UInt8.ofNat (i / 256)).toNat = _
    simp
    omega
  have e1 : (tx i)[1].toNat = i % 256 := by
    show (UInt8.ofNat i).toNat = _
    simp
  rw [e0, e1]
  have w1 : wrap64 ((i / 256 : Nat) : Int) = ((i / 256 : Nat) : Int) := by unfold wrap64; omega
  have w2 : wrap64 (((i / 256 : Nat) : Int) * 256) = ((2 ^ 8 * (i / 256) : Nat) : Int) := by unfold wrap64; omega
  have w3 : wrap64 ((i % 256 : Nat) : Int) = ((i % 256 : Nat) : Int) := by unfold wrap64; omega
  have e3 : 2 ^ 8 * (i / 256) ||| i % 256 = i := by
    rw [← Nat.two_pow_add_eq_or_of_lt (by omega) (i / 256)]
    omega
  rw [w1, w2, w3, or_i64 _ _ (by omega) (by omega) (by rw [e3]; omega), e3]
  simp

/-- The three bytes. -/
def bytes3 (W : World) (bb : Nat) (x y z : Int) : Prop := W.heap[bb]? = some (.cells #[.int .u8 x, .int .u8 y, .int .u8 z] 5 (0, 0))
section
variable {W W' : World} {base tb hb mb bb : Nat} {xs : List ByteArray} {x y z : Int}
theorem not_mine5 {a : Option Addr} {cap : Nat} (t : Tab W base tb hb mb a cap xs) (hk : bytes3 W bb x y z) : ¬ (bb = tb ∨ mine hb mb a bb) := by
  unfold bytes3 at hk
  obtain ⟨es, clock, hmb⟩ := t.mb_obj
  rintro (e | e | e | e)
  · subst e; have := t.tab; rw [hk] at this; simp at this
  · subst e; have := t.held; rw [hk] at this; simp at this
  · subst e; rw [hk] at hmb; cases hmb
  · obtain ⟨cur2, hc⟩ := t.row.obj _ e; rw [hk] at hc; simp at hc
theorem put_bytes (h : Only W base tb hb mb xs) (hk : bytes3 W bb x y z) (s : ByteArray) (hs : s.size ≤ 281474976710656) :
    Calls Try.prog 13 #[.pointer (some ⟨tb, 0, none⟩), .string s] W fun e w' => e = .returned (.tuple #[.int .i64 (ansN xs s : Int), .int .i64 (ansE xs s)]) ∧ Only w' base tb hb mb (put xs s) ∧ Below base W w' ∧ bytes3 w' bb x y z := by
  obtain ⟨a, cap, h1⟩ := h
  exact (put_any h1 s hs).mono fun e w' ⟨he, a', cap', l⟩ => ⟨he, ⟨a', cap', l.tab⟩, l.below h1, (l.turn.block bb (lt_of_heap hk) (fun e2 => not_mine5 h1 hk (.inr e2))).trans hk⟩
theorem only_bytes (h : Only W base tb hb mb xs) (hk : bytes3 W bb x y z) (t : Turn (fun k => k = bb) W W') : Only W' base tb hb mb xs := by
  obtain ⟨a, cap, h1⟩ := h
  exact ⟨a, cap, h1.stays t (fun k e e2 => by subst e2; exact not_mine5 h1 hk e)⟩
theorem bytes3_set (hk : bytes3 W bb x y z) (x' y' z' : Int) : bytes3 (((W.setCell ⟨bb, 0, none⟩ (.int .u8 x')).setCell ⟨bb, 1, none⟩ (.int .u8 y')).setCell ⟨bb, 2, none⟩ (.int .u8 z')) bb x' y' z' := by
  unfold bytes3 at hk ⊢
  simp [World.setCell, Array.getElem?_modify, hk]
theorem turn1 (W : World) (bb o : Nat) (u : Value) : Turn (fun q => q = bb) W (W.setCell ⟨bb, o, none⟩ u) := Turn.setCell (S := fun q => q = bb) W ⟨bb, o, none⟩ u rfl
theorem turn3 (W : World) (bb : Nat) (x' y' z' : Value) : Turn (fun q => q = bb) W (((W.setCell ⟨bb, 0, none⟩ x').setCell ⟨bb, 1, none⟩ y').setCell ⟨bb, 2, none⟩ z') :=
  ((turn1 W bb 0 x').trans (turn1 _ bb 1 y') (fun _ _ e => e)).trans (turn1 _ bb 2 z') (fun _ _ e => e)
theorem bytes3_conv {k : Nat} (hk : bytes3 W bb ((k : Int) / 256) ((k : Int) % 256) 7) (hl : k < 16384) : (convert 53 9 (.slice (some ⟨bb, 0, none⟩) 3 3)).run Try.prog W = .ok (.string (tx k)) W := by
  have h := run_convert_bytes_back (P := Try.prog) W 53 9 5 ⟨bb, 0, none⟩ 3 [UInt8.ofNat (k / 256), UInt8.ofNat k, 7] Try.underlying53 Try.underlying5 Try.underlying9 (fun j hj => by
    unfold bytes3 at hk
    match j, hj with
    | 0, _ => simp [World.cell?, Addr.add, hk]; omega
    | 1, _ => simp [World.cell?, Addr.add, hk]
    | 2, _ => simp [World.cell?, Addr.add, hk])
  simpa [tx] using h
end

end Go.Proofs.Ytomlednmikgkcaa
