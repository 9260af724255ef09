import Derived.Test.YtbmfbpcjokbjkaaGreatDoorRfB
import Derived.Test.YtbmfbpcjokbjkaaGreatDoorAkM
namespace Go.Proofs.YtbmfbpcjokbjkaaGreatDoor
open Go.RowKit Vi
set_option linter.unusedVariables false
set_option linter.unusedSimpArgs false
theorem rdN_36 (S : PS) (t : SP.Bs) (hp : S.part = []) : rdN S (36 :: t) = match lfAt ((36 :: t).take (64 + 1)) with
    | none => if 64 < ((36 :: t).take (64 + 1)).length then ⟨{ S with st := 3, part := (36 :: t).take (64 + 1) }, [], [], longLen.data.toList, 2⟩ else ⟨{ S with st := 3, part := (36 :: t).take (64 + 1) }, [], [], [], 0⟩
    | some k => lenO rdN { S with st := 2 } ((36 :: t).drop (k + 1)) (lenV ((eol ((36 :: t).take k)).drop 1)) := by
  rw [rdN_eq, word_36]
  unfold rdLen
  have e : ({ S with st := 2 } : PS).part = [] := hp
  rw [e]
  rfl
theorem rdN_other (S : PS) (b : UInt8) (t : SP.Bs) (hb : b ≠ 36) : rdN S (b :: t) = ⟨{ S with st := 2 }, [], [], expB b, 2⟩ := by
  rw [rdN_eq]
  show (if b = 36 then rdLen rdN { S with st := 2 } (b :: t) else ⟨{ S with st := 2 }, [], [], expB b, 2⟩) = _
  exact if_neg hb
theorem rdN_nil (S : PS) : rdN S [] = ⟨{ S with st := 2 }, [], [], [], 0⟩ := by rw [rdN_eq]; rfl
/-- a word that fits: what is behind its line. -/
theorem lenO_is (S : PS) (u : SP.Bs) (v : Nat) (hv : (v : Int) ≤ 524288) (ht : S.total + (v : Int) ≤ 33554432) : ∃ S', S'.part = [] ∧ S'.words = S.words ++ [u.take v] ∧ S'.more = S.more - 1 ∧ S'.total = S.total + (v : Int) ∧
    (u.length < v + 2 → (lenO rdN S u (some (v : Int))).k = 0) ∧ (¬ u.length < v + 2 → lenO rdN S u (some (v : Int)) = if 0 < S.more - 1 then rdN S' (u.drop (v + 2)) else ⟨S', u.drop (v + 2), S'.words, [], 2⟩) := by
  refine ⟨{ S with st := 4, part := [], words := S.words ++ [u.take v], more := S.more - 1, size := (v : Int), total := S.total + (v : Int) }, rfl, rfl, rfl, rfl, fun h => ?_, fun h => ?_⟩
  · unfold lenO
    dsimp only
    rw [if_pos ht]
    unfold rdBody
    dsimp only
    rw [if_pos (by rw [Int.toNat_natCast, List.length_nil]; omega)]
  · unfold lenO
    dsimp only
    rw [if_pos ht]
    unfold rdBody
    dsimp only
    rw [if_neg (by rw [Int.toNat_natCast, List.length_nil]; omega), Int.toNat_natCast, List.length_nil, Nat.sub_zero, List.nil_append, List.take_take, Nat.min_eq_left (by omega)]
theorem lenO_big (S : PS) (u : SP.Bs) (v : Int) (ht : ¬ S.total + v ≤ 33554432) : (lenO rdN S u (some v)).k = 2 ∧ (lenO rdN S u (some v)).err = badLen.data.toList ∧ (lenO rdN S u (some v)).args = [] := by
  unfold lenO
  dsimp only
  rw [if_neg ht]
  exact ⟨rfl, rfl, rfl⟩
theorem longLen_is : badR ⟨#[116, 111, 111, 32, 98, 105, 103, 32, 98, 117, 108, 107, 32, 99, 111, 117, 110, 116, 32, 115, 116, 114, 105, 110, 103]⟩ = longLen := by decide +kernel
theorem badLen_is : badR ⟨#[105, 110, 118, 97, 108, 105, 100, 32, 98, 117, 108, 107, 32, 108, 101, 110, 103, 116, 104]⟩ = badLen := by decide +kernel
theorem longCnt_is : badR ⟨#[116, 111, 111, 32, 98, 105, 103, 32, 109, 98, 117, 108, 107, 32, 99, 111, 117, 110, 116, 32, 115, 116, 114, 105, 110, 103]⟩ = longCnt := by decide +kernel
theorem badCnt_is : badR ⟨#[105, 110, 118, 97, 108, 105, 100, 32, 109, 117, 108, 116, 105, 98, 117, 108, 107, 32, 108, 101, 110, 103, 116, 104]⟩ = badCnt := by decide +kernel
theorem exp_is (s : ByteArray) (a : Nat) (h : a < s.size) : badR ((⟨#[101, 120, 112, 101, 99, 116, 101, 100, 32, 39, 36, 39, 44, 32, 103, 111, 116, 32, 39]⟩ ++ s.extract a (a + 1)) ++ ⟨#[39]⟩) = strB (expB s[a]) := by
  have e1 : (⟨#[101, 120, 112, 101, 99, 116, 101, 100, 32, 39, 36, 39, 44, 32, 103, 111, 116, 32, 39]⟩ : ByteArray) = strB [101, 120, 112, 101, 99, 116, 101, 100, 32, 39, 36, 39, 44, 32, 103, 111, 116, 32, 39] := rfl
  unfold badR expB
  rw [e1, strB_one _ s a h]
  have e2 : (⟨#[39]⟩ : ByteArray) = strB [39] := rfl
  have e3 : (⟨#[80, 114, 111, 116, 111, 99, 111, 108, 32, 101, 114, 114, 111, 114, 58, 32]⟩ : ByteArray) = strB [80, 114, 111, 116, 111, 99, 111, 108, 32, 101, 114, 114, 111, 114, 58, 32] := rfl
  rw [e2, e3, strB_two, strB_two]
  rfl
/-- where the document's first stands between two words. -/
structure FI2 (rb nb rr : Nat) (w wr : World) (P : Option Addr) (c i : Nat) (Wd : List SP.Bs) : Prop where
  bel : Below rb w wr
  rb0 : rb ≤ wr.heap.size
  res : wr.heap[rb]? = some (.cells #[.slice none 0 0, .string ⟨#[]⟩] 43)
  non : wr.heap[nb]? = some (.cells #[.slice none 0 0, .string ⟨#[]⟩] 43)
  row : wr.heap[rr]? = some (.cells #[.slice P i c, .string ⟨#[]⟩] 43)
  own : wr.ownsRow rb 9 1 (.slice P i c) i (strS Wd)
  len : Wd.length = i
  n1 : rb ≠ rr
  n2 : nb ≠ rr
  n3 : rb ≤ rr
theorem FI2.on {rb nb rr : Nat} {w wr w' : World} {P : Option Addr} {c i : Nat} {Wd : List SP.Bs} (h : FI2 rb nb rr w wr P c i Wd) (hb : Below wr.heap.size wr w') : FI2 rb nb rr w w' P c i Wd :=
  ⟨h.bel.trans (hb.mono h.rb0), Nat.le_trans h.rb0 hb.size, keep_row h.res hb, keep_row h.non hb, keep_row h.row hb, own_on h.own hb, h.len, h.n1, h.n2, h.n3⟩
/-- a word joins them. -/
theorem FI2.word {rb nb rr : Nat} {w W W' : World} {P P' : Option Addr} {c i c' : Nat} {Wd : List SP.Bs} {u : SP.Bs} (h : FI2 rb nb rr w W P c i Wd) (ho : W'.ownsRow rb 9 1 (.slice P' (i + 1) c') (i + 1) (strS Wd ++ [.string (strB u)])) (hg : W.grownBy W' (Value.slice P i c).ownBlock) (hat : (Value.slice P' (i + 1) c').ownBlock = (Value.slice P i c).ownBlock ∨ (Value.slice P' (i + 1) c').ownBlock = some W.heap.size) :
    W'.heap[rr]? = some (.cells #[.slice P i c, .string ⟨#[]⟩] 43) ∧ FI2 rb nb rr w (W'.setCell ⟨rr, 0, none⟩ (.slice P' (i + 1) c')) P' c' (i + 1) (Wd ++ [u]) := by
  have keep : ∀ (g : Nat) (cs : Array Value), W.heap[g]? = some (.cells cs 43) → W'.heap[g]? = some (.cells cs 43) := fun g cs hc => (hg.block g (row_lt hc) (fun e => by
    obtain ⟨cur, hc2⟩ := own_ty h.own g e.symm
    exact ty_apart hc hc2 (by decide))).trans hc
  have hrow := keep rr _ h.row
  refine ⟨hrow, ?_, ?_, ?_, ?_, ?_, ?_, by rw [List.length_append, h.len]; rfl, h.n1, h.n2, h.n3⟩
  · exact (h.bel.trans ((Below.refl rb W).grown hg h.rb0 (fun k hk => own_block h.own k hk))).setCell (p := ⟨rr, 0, none⟩) h.n3 _
  · rw [World.size_setCell]; exact Nat.le_trans h.rb0 hg.size
  · rw [heap_setCell_other _ _ _ _ h.n1]; exact keep rb _ h.res
  · rw [heap_setCell_other _ _ _ _ h.n2]; exact keep nb _ h.non
  · rw [heap_setCell_same _ _ _ _ _ _ hrow]; rfl
  · rw [strS_snoc]
    exact own_stays ho (fun g hg2 => heap_setCell_other _ _ _ _ (fun e => by
      obtain ⟨cur, hc⟩ := own_ty ho g hg2
      rw [e] at hc
      exact ty_apart hc hrow (by decide)))
end Go.Proofs.YtbmfbpcjokbjkaaGreatDoor
