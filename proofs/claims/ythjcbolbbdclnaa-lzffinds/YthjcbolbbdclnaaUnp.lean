import Derived.Test.YthjcbolbbdclnaaHeadC
import Derived.Test.YthjcbolbbdclnaaCopyB
import Derived.Test.YthjcbolbbdclnaaRuns
import Derived.Test.YthjcbolbbdclnaaUnpStep
namespace Go.Proofs.Ythjcbolbbdclnaa
open Go.RowKit Lz
set_option linter.unusedVariables false
def pairT (q : List UInt8 × Int) : Value := .tuple #[.string (strB q.1), .int .i64 q.2]
def unpT (l : List UInt8) (size : Int) : Value := pairT (unpack l size)
theorem pair_eq {q : List UInt8 × Int} {l : List UInt8} {n : Int} (h : q = (l, n)) : pairT q = .tuple #[.string (strB l), .int .i64 n] := by rw [h]; rfl
set_option maxHeartbeats 1000000 in
set_option maxRecDepth 20000 in
theorem unpack_arg (p : ByteArray) (size : Int) (h : size < 1 ∨ 524288 < size) (w : World) :
    Calls Try.prog 10 #[.string p, .int .i64 size] w fun e w' => e = .returned (unpT p.data.toList size) ∧ Below w.heap.size w w' := by
  have HR : Hid (unpT p.data.toList size = .tuple #[.string ⟨#[]⟩, .int .i64 1]) := by
    show _ = _
    unfold unpT unpack
    rw [if_pos h]; rfl
  rcases h with h | h
  · go_enter Try.func10, Try.ntmps10
    go_wp2
    go_ret2
    exact ⟨by rw [HR.out]; rfl, Below.refl _ _⟩
  · go_enter Try.func10, Try.ntmps10
    go_wp2
    go_ret2
    exact ⟨by rw [HR.out]; rfl, Below.refl _ _⟩
set_option maxHeartbeats 4000000 in
set_option maxRecDepth 20000 in
theorem unpack_go (p : ByteArray) (size : Nat) (h1 : 1 ≤ size) (h2 : size ≤ 524288) (hm : p.size ≤ 140737488355328) (w : World) :
    Calls Try.prog 10 #[.string p, .int .i64 (size : Int)] w fun e w' => e = .returned (unpT p.data.toList size) ∧ Below w.heap.size w w' := by
  obtain ⟨i0, hi, hz0, hz1, hz2⟩ := info_parts info5
  have HR : Hid (unpT p.data.toList size = pairT (unpB size p.data.toList [])) := by
    show _ = _
    unfold unpT; rw [unpack_unpB _ _ h1 h2]
  go_enter Try.func10, Try.ntmps10
  go_wp2
  go_loopw [0, 6, 7, 8] (fun q v _ _ wr => ∃ (p' : ByteArray) (l' : List UInt8), q = .string p' ∧ wr.ownsRow w.heap.size 5 1 v l'.length (bcells l') ∧ unpB size p'.data.toList l' = unpB size p.data.toList [] ∧ p'.size ≤ p.size ∧ l'.length ≤ size ∧ Below w.heap.size w wr) (fun q _ _ _ _ => sizeS q)
  case atStart => exact ⟨p, [], rfl, World.ownsRow_nil _ _ _ _, rfl, Nat.le_refl _, Nat.zero_le _, Below.refl _ _⟩
  case round =>
    obtain ⟨p', l', rfl, hown, he, hsz, hls, hbel⟩ := hrel
    have HE : Hid (unpB size p'.data.toList l' = unpB size p.data.toList []) := he
    have HB : Hid (Below w.heap.size w wr) := hbel
    have HW : Hid (wr.ownsRow w.heap.size 5 1 u6 l'.length (bcells l')) := hown
    have hbz : w.heap.size ≤ wr.heap.size := hbel.size
    clear hbel he
    have hpz : p'.size ≤ 140737488355328 := by omega
    by_cases h0 : p'.size = 0
    · have hem : p'.toList.isEmpty = true := str_empty h0
      have HZ : Hid (p'.data.toList = []) := List.length_eq_zero_iff.1 (by rw [list_len]; exact h0)
      by_cases hlt : l'.length < size
      · have HF : Hid _ := pair_eq (unpB_nil_short hlt)
        obtain ⟨pp, cc, ev⟩ := own_form hown
        subst ev
        clear hown
        go_wp2
        go_ret2
        exact ⟨by rw [HR.out, ← HE.out, HZ.out, HF.out]; rfl, HB.out⟩
      · have HF : Hid _ := pair_eq (unpB_nil_full hlt)
        obtain ⟨pp, cc, ev, hcv⟩ := own_text hown
        subst ev
        clear hown
        go_wp2
        go_ret2
        exact ⟨by rw [HR.out, ← HE.out, HZ.out, HF.out]; rfl, HB.out⟩
    · have hem : p'.toList.isEmpty = false := str_full h0
      have h0' : 0 < p'.size := by omega
      have hL := bytes_1 p' h0'
      have hrl : (p'.data.toList.drop 1).length = p'.size - 1 := by rw [List.length_drop, list_len]
      obtain ⟨pp, cc, ev⟩ := own_form hown
      subst ev
      clear hown
      obtain ⟨c, e0⟩ : ∃ c, p'[0].toNat = c := ⟨_, rfl⟩
      by_cases hc : c < 32
      · have HH : Hid (∀ w : World, _) := fun w => headOf_run p' c h0' hpz e0 w hc
        rcases Nat.lt_or_ge size (l'.length + c + 1) with hs1 | hs1
        · have HF : Hid _ := pair_eq (unpB_run1 hL e0 hc hs1)
          clear hL hrl e0
          go_wp2_with fail
          refine (HH.out _).mono ?_
          rintro e w1 ⟨rfl, hb1⟩
          have HB1 : Hid (Below wr.heap.size wr w1) := hb1
          clear hb1
          simp only [headV]
          go_wp2
          go_ret2
          exact ⟨by rw [HR.out, ← HE.out, HF.out]; rfl, (HB.out.trans (HB1.out.mono hbz)).alloc (by have := HB1.out.size; omega) _⟩
        · rcases Nat.lt_or_ge (p'.size - 1) (c + 1) with hs2 | hs2
          · have HF : Hid _ := pair_eq (unpB_run2 (size := size) (o := l') hL e0 hc (by omega) (by rw [hrl]; exact hs2))
            clear hL hrl e0
            go_wp2_with fail
            refine (HH.out _).mono ?_
            rintro e w1 ⟨rfl, hb1⟩
            have HB1 : Hid (Below wr.heap.size wr w1) := hb1
            have hzz : wr.heap.size ≤ w1.heap.size := hb1.size
            clear hb1
            simp only [headV]
            go_wp2
            go_ret2
            exact ⟨by rw [HR.out, ← HE.out, HF.out]; rfl, (HB.out.trans (HB1.out.mono hbz)).alloc (by omega) _⟩
          · have HF : Hid _ := unpB_run3 (size := size) (o := l') hL e0 hc (by omega) (by rw [hrl]; omega)
            clear hL hrl e0
            go_wp2_with fail
            refine (HH.out _).mono ?_
            rintro e w1 ⟨rfl, hb1⟩
            have HB1 : Hid (Below wr.heap.size wr w1) := hb1
            have hzz : wr.heap.size ≤ w1.heap.size := hb1.size
            clear hb1
            simp only [headV]
            have HW1 : Hid (w1.ownsRow w.heap.size 5 1 (.slice pp l'.length cc) l'.length (bcells l')) := own_keep HW.out (fun k _ h => HB1.out.block k h)
            go_wp2_with (at_builtin; go_must (refine Lib.wpList_append_own_string _ rfl _ _ 22 9 rfl w.heap.size 5 i0 Try.underlying22 Try.underlying9 hi hz0 hz1 hz2 _ _ _ rfl (World.ownsRow.alloc HW1.out _) _ rfl ?c1 ?c2 ?c3 ?_))
            case c1 => unfold maxLen; (try simp only [ByteArray.size_extract]); omega
            case c2 => (try simp only [ByteArray.size_extract]); omega
            case c3 => simp; omega
            · intro v2 w2 hown2 hgrow2 _
              have hblk : w2.heap[w1.heap.size]? = some (.cells #[.int .i64 1, .int .i64 ((c : Int) + 1), .int .i64 0] 35) := by
                rw [hgrow2.block w1.heap.size (by simp) (fun e => by have := (World.ownsRow.lt HW1.out _ e.symm).2; omega)]
                exact heap_alloc_new _ _
              have hcell : w2.cell? ⟨w1.heap.size, 1, none⟩ = some (.int .i64 ((c : Int) + 1)) := by rw [cell_of_row _ _ _ _ _ _ hblk]; rfl
              have HW2 : Hid (w2.ownsRow w.heap.size 5 1 v2 (l' ++ (p'.data.toList.drop 1).take (c + 1)).length (bcells (l' ++ (p'.data.toList.drop 1).take (c + 1)))) := by
                have e1 : ((p'.extract 1 p'.size).extract 0 (c + 1)).data.toList = (p'.data.toList.drop 1).take (c + 1) := by rw [ext_take, ext_drop]
                show World.ownsRow _ _ _ _ _ _ _
                rw [← e1, bcells_str, List.length_append, e1, List.length_take, List.length_drop, list_len, Nat.min_eq_left (by omega)]
                exact hown2
              have HB2 : Hid (Below w.heap.size w w2) := ((HB.out.trans (HB1.out.mono hbz)).alloc (by omega) _).grown hgrow2 (by simp; omega) (fun k hk => (World.ownsRow.lt HW1.out k hk).1)
              have hez : (p'.extract 1 p'.size).size = p'.size - 1 := by rw [ext_size _ _ _ (Nat.le_refl _)]
              clear hown2 hgrow2 hblk
              go_wp2
              go_roundw
              case rel => exact ⟨_, _, rfl, HW2.out, by rw [← HE.out, HF.out]; congr 1; simp; rw [show 1 + (c + 1) = c + 1 + 1 by omega, List.take_of_length_le (by rw [List.length_drop, list_len]; omega)], by (try simp only [ByteArray.size_extract]); omega, by simp; omega, HB2.out⟩
              case measure => simp only [sizeS]; (try simp only [ByteArray.size_extract]); omega
      · have hc' : ¬ c < 32 := hc
        cases hh : headC c (p'.data.toList.drop 1) with
        | none =>
          have HH : Hid (∀ w : World, _) := fun w => headOf_none p' c h0' hpz e0 (by omega) hh w
          have HF : Hid _ := pair_eq (unpB_none (size := size) (o := l') hL e0 hc hh)
          clear hL hrl e0 hh
          go_wp2_with fail
          refine (HH.out _).mono ?_
          rintro e w1 ⟨rfl, hb1⟩
          have HB1 : Hid (Below wr.heap.size wr w1) := hb1
          have hzz : wr.heap.size ≤ w1.heap.size := hb1.size
          clear hb1
          simp only [headV]
          go_wp2
          go_ret2
          exact ⟨by rw [HR.out, ← HE.out, HF.out]; rfl, (HB.out.trans (HB1.out.mono hbz)).alloc (by omega) _⟩
        | some t =>
          obtain ⟨n, b, r⟩ := t
          obtain ⟨sz, z1, z2, z3, hr, n1, n2, b1, b2, hw⟩ := headOf_some p' c n b r h0' hpz e0 (by omega) hh
          have HH : Hid (∀ w : World, _) := hw
          have HF0 := unpB_copy (size := size) (o := l') hL e0 hc hh
          clear hL hrl e0 hh hw
          by_cases hs1 : size < l'.length + n
          · rw [if_pos hs1] at HF0
            have HF : Hid _ := pair_eq HF0
            clear HF0
            go_wp2_with fail
            refine (HH.out _).mono ?_
            rintro e w1 ⟨rfl, hb1⟩
            have HB1 : Hid (Below wr.heap.size wr w1) := hb1
            have hzz : wr.heap.size ≤ w1.heap.size := hb1.size
            clear hb1
            simp only [headV]
            go_wp2
            go_ret2
            exact ⟨by rw [HR.out, ← HE.out, HF.out]; rfl, (HB.out.trans (HB1.out.mono hbz)).alloc (by omega) _⟩
          · rw [if_neg hs1] at HF0
            by_cases hs2 : l'.length < b
            · rw [if_pos hs2] at HF0
              have HF : Hid _ := pair_eq HF0
              clear HF0
              go_wp2_with fail
              refine (HH.out _).mono ?_
              rintro e w1 ⟨rfl, hb1⟩
              have HB1 : Hid (Below wr.heap.size wr w1) := hb1
              have hzz : wr.heap.size ≤ w1.heap.size := hb1.size
              clear hb1
              simp only [headV]
              go_wp2
              go_ret2
              exact ⟨by rw [HR.out, ← HE.out, HF.out]; rfl, (HB.out.trans (HB1.out.mono hbz)).alloc (by omega) _⟩
            · rw [if_neg hs2] at HF0
              have HF : Hid _ := HF0
              have HRR : Hid _ := hr
              clear HF0 hr
              go_wp2_with fail
              refine (HH.out _).mono ?_
              rintro e w1 ⟨rfl, hb1⟩
              have HB1 : Hid (Below wr.heap.size wr w1) := hb1
              have hzz : wr.heap.size ≤ w1.heap.size := hb1.size
              clear hb1
              simp only [headV]
              have HW1 : Hid (w1.ownsRow w.heap.size 5 1 (.slice pp l'.length cc) l'.length (bcells l')) := own_keep HW.out (fun k _ h => HB1.out.block k h)
              go_wp2_with fail
              refine (copyBack_any w.heap.size _ l' b n _ b1 (by omega) (by omega) (by simp; omega) (World.ownsRow.alloc HW1.out _)).mono ?_
              rintro e w2 ⟨v2, rfl, hown2, hb2⟩
              have HW2 : Hid (w2.ownsRow w.heap.size 5 1 v2 (copyN n b l').length (bcells (copyN n b l'))) := hown2
              have HB2 : Hid (Below w.heap.size w w2) := ((HB.out.trans (HB1.out.mono hbz)).alloc (by omega) _).trans hb2
              clear hown2 hb2
              go_wp2
              go_roundw
              case rel => exact ⟨_, _, rfl, HW2.out, by rw [ext_drop, ← HRR.out, ← HF.out]; exact HE.out, by rw [ext_size _ _ _ (Nat.le_refl _)]; omega, by rw [copyN_length]; omega, HB2.out⟩
              case measure => simp only [sizeS]; rw [ext_size _ _ _ (Nat.le_refl _)]; omega
theorem unpack_any (p : ByteArray) (size : Int) (hm : p.size ≤ 140737488355328) (w : World) :
    Calls Try.prog 10 #[.string p, .int .i64 size] w fun e w' => e = .returned (unpT p.data.toList size) ∧ Below w.heap.size w w' := by
  by_cases h : size < 1 ∨ 524288 < size
  · exact unpack_arg p size h w
  · have := unpack_go p size.toNat (by omega) (by omega) hm w
    rw [Int.toNat_of_nonneg (by omega)] at this
    exact this
end Go.Proofs.Ythjcbolbbdclnaa
