import Derived.Test.YtcnicdcjdieodaaDoorWrt
namespace Go.Proofs.YtcnicdcjdieodaaDoor
open Go.RowKit Vi
set_option linter.unusedVariables false

/-- the block of one piece, laid for a call. -/
theorem one_piece {w w' : World} {b : Nat} {s : ByteArray} (hb : b < w.heap.size) (hp : PutF (w.alloc (.cells #[.string s] 9)) w' b) : ∀ i, i < 1 → w'.cell? ⟨w.heap.size, 0 + i, none⟩ = some (.string s) := by
  intro i hi
  have e : i = 0 := by omega
  subst e
  have h := hp.other w.heap.size _ _ _ (by omega) (by decide) (heap_alloc_new w (.cells #[.string s] 9))
  rw [cell_of_row _ _ _ _ _ _ h]; rfl
theorem cat_one (s : ByteArray) : cat (fun _ => s) 1 = s.data.toList := by rw [cat_succ, cat_zero]; rfl
theorem PutF.alloc {w : World} {b : Nat} (hb : b < w.heap.size) (o : Obj) : PutF w (w.alloc o) b := PutF.ofBelow ((Below.refl _ _).alloc (Nat.le_refl _) _) hb
theorem Wr.lt {w : World} {b lim : Nat} {l : List UInt8} (h : Wr w b lim l) : b < w.heap.size := by obtain ⟨v, hv⟩ := h; exact row_lt hv.row
/-- Put of one piece, as a call lays it. -/
theorem put_one (b lim : Nat) (l : List UInt8) (s : ByteArray) (w : World) (hW : Wr w b lim l) (hlim : lim ≤ 1073741824) (hfit : l.length + s.size ≤ lim) :
    Calls Tryd.prog 21 #[.pointer (some ⟨b, 0, none⟩), .slice (some ⟨w.heap.size, 0, none⟩) 1 1] (w.alloc (.cells #[.string s] 9)) fun e w' => e = .returned (.int .i64 0) ∧ Wr w' b lim (l ++ s.data.toList) ∧ PutF w w' b := by
  have hb := hW.lt
  refine (put_ok b lim l (some ⟨w.heap.size, 0, none⟩) w.heap.size 0 1 1 (fun _ => s) _ (hW.on ((Below.refl _ _).alloc (Nat.le_refl _) _)) hlim (by omega) (fun _ => rfl) (fun w' hp => one_piece hb hp) (by rw [cat_one, list_len]; exact hfit)).mono ?_
  rintro e w' ⟨rfl, h1, h2⟩
  rw [cat_one] at h1
  exact ⟨rfl, h1, (PutF.alloc hb _).trans h2⟩
set_option maxHeartbeats 400000 in
set_option maxRecDepth 20000 in
theorem wlen_ok (b lim : Nat) (l : List UInt8) (n : Int) (h0 : 0 ≤ n) (h1 : n ≤ 4611686018427387904) (w : World) (hW : Wr w b lim l) (hlim : lim ≤ 1073741824) (hfit : l.length + (lenL n).length ≤ lim) :
    Calls Tryd.prog 20 #[.pointer (some ⟨b, 0, none⟩), .int .i64 n] w fun e w' => e = .returned (.int .i64 0) ∧ Wr w' b lim (l ++ lenL n) ∧ PutF w w' b := by
  have HW : Hid (Wr w b lim l) := hW
  have HF : Hid (l.length + (lenB n).size ≤ lim) := by show _ ≤ _; rw [← list_len, lenB_list]; exact hfit
  have HB : Hid (b < w.heap.size) := hW.lt
  clear hW hfit
  go_enter Tryd.func20, Tryd.ntmps20
  go_wp2_with fail
  refine (putLen_ok n h0 h1 _).mono ?_
  rintro e w1 ⟨rfl, hb1⟩
  go_wp2_with fail
  refine (put_one b lim l (lenB n) w1 (HW.out.on hb1) hlim HF.out).mono ?_
  rintro e w2 ⟨rfl, hw2, hp2⟩
  go_wp2
  go_ret
  refine ⟨rfl, ?_, (PutF.ofBelow hb1 HB.out).trans hp2⟩
  rw [lenB_list] at hw2
  exact hw2
end Go.Proofs.YtcnicdcjdieodaaDoor
