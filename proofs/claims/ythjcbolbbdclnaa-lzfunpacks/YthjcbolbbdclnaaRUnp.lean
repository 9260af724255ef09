import Derived.Test.YthjcbolbbdclnaaUnp
namespace Go.Proofs.Ythjcbolbbdclnaa
open Go.RowKit Lz
set_option linter.unusedVariables false
set_option maxHeartbeats 1000000 in
set_option maxRecDepth 20000 in
theorem refUnpack_arg (p : ByteArray) (size : Int) (h : size < 1 ∨ 524288 < size) (w : World) :
    Calls Try.prog 11 #[.string p, .int .i64 size] w fun e w' => e = .returned (unpT p.data.toList size) ∧ Below w.heap.size w w' := by
  have HR : Hid (unpT p.data.toList size = .tuple #[.string ⟨#[]⟩, .int .i64 1]) := by
    show _ = _
    unfold unpT unpack
    rw [if_pos h]; rfl
  rcases h with h | h
  · go_enter Try.func11, Try.ntmps11
    go_wp2
    go_ret2
    exact ⟨by rw [HR.out]; rfl, Below.refl _ _⟩
  · go_enter Try.func11, Try.ntmps11
    go_wp2
    go_ret2
    exact ⟨by rw [HR.out]; rfl, Below.refl _ _⟩
theorem hd_none2 {p : ByteArray} {c j : Nat} (h : c / 32 ≠ 7) (hj : p.size ≤ j + 1) : headC c (p.data.toList.drop (j + 1)) = none := by
  unfold headC
  rw [if_neg h, List.drop_eq_nil_of_le (by rw [list_len]; omega)]
theorem hd_some2 {p : ByteArray} {c j : Nat} (h : c / 32 ≠ 7) (hj : j + 1 < p.size) : headC c (p.data.toList.drop (j + 1)) = some (c / 32 + 2, c % 32 * 256 + p[j + 1].toNat + 1, p.data.toList.drop (j + 2)) := by
  unfold headC
  rw [if_neg h, drop_at p (j + 1) hj]
theorem hd_none3 {p : ByteArray} {c j : Nat} (h : c / 32 = 7) (hj : p.size ≤ j + 2) : headC c (p.data.toList.drop (j + 1)) = none := by
  unfold headC
  rw [if_pos h]
  rcases Nat.lt_or_ge (j + 1) p.size with h1 | h1
  · rw [drop_at p (j + 1) h1, List.drop_eq_nil_of_le (by rw [list_len]; omega)]
  · rw [List.drop_eq_nil_of_le (by rw [list_len]; omega)]
theorem hd_some3 {p : ByteArray} {c j : Nat} (h : c / 32 = 7) (hj : j + 2 < p.size) : headC c (p.data.toList.drop (j + 1)) = some (9 + p[j + 1].toNat, c % 32 * 256 + p[j + 2].toNat + 1, p.data.toList.drop (j + 3)) := by
  unfold headC
  rw [if_pos h, drop_at p (j + 1) (by omega), drop_at p (j + 2) hj]
set_option maxHeartbeats 8000000 in
set_option maxRecDepth 20000 in
theorem refUnpack_go (p : ByteArray) (size : Nat) (h1 : 1 ≤ size) (h2 : size ≤ 524288) (hm : p.size ≤ 140737488355328) (w : World) :
    Calls Try.prog 11 #[.string p, .int .i64 (size : Int)] w fun e w' => e = .returned (unpT p.data.toList size) ∧ Below w.heap.size w w' := by
  obtain ⟨i0, hi, hz0, hz1, hz2⟩ := info_parts info5
  have HR : Hid (unpT p.data.toList size = pairT (unpB size p.data.toList [])) := by
    show _ = _
    unfold unpT; rw [unpack_unpB _ _ h1 h2]
  go_enter Try.func11, Try.ntmps11
  go_wp2
  go_loopw [6, 7, 8, 9, 10, 11] (fun v i _ _ _ _ wr => ∃ (j : Nat) (l' : List UInt8), i = .int .i64 j ∧ j ≤ p.size ∧ wr.ownsRow w.heap.size 5 1 v l'.length (bcells l') ∧ unpB size (p.data.toList.drop j) l' = unpB size p.data.toList [] ∧ l'.length ≤ size ∧ Below w.heap.size w wr) (fun _ i _ _ _ _ _ => p.size - (intOf i).toNat)
  case atStart => exact ⟨0, [], rfl, Nat.zero_le _, World.ownsRow_nil _ _ _ _, rfl, Nat.zero_le _, Below.refl _ _⟩
  case round =>
    obtain ⟨j, l', rfl, hj, hown, he, hls, hbel⟩ := hrel
    have HE : Hid (unpB size (p.data.toList.drop j) l' = unpB size p.data.toList []) := he
    have HB : Hid (Below w.heap.size w wr) := hbel
    have HW : Hid (wr.ownsRow w.heap.size 5 1 u6 l'.length (bcells l')) := hown
    have hbz : w.heap.size ≤ wr.heap.size := hbel.size
    clear hbel he
    by_cases h0 : j = p.size
    · have HZ : Hid (p.data.toList.drop j = []) := List.drop_eq_nil_of_le (by rw [list_len]; omega)
      by_cases hlt : l'.length < size
      · have HF : Hid _ := pair_eq (unpB_nil_short hlt)
        obtain ⟨pp, cc, ev⟩ := own_form hown
        subst ev
        clear hown
        go_wp2
        go_ret2
        exact ⟨by rw [HR.out, ← HE.out, HZ.out, HF.out]; rfl, HB.out⟩
      · have HF : Hid _ := pair_eq (unpB_nil_full hlt)
        obtain ⟨pp, cc, ev, hcv⟩ := own_text hown
        subst ev
        clear hown
        go_wp2
        go_ret2
        exact ⟨by rw [HR.out, ← HE.out, HZ.out, HF.out]; rfl, HB.out⟩
    · have hjl : j < p.size := by omega
      have hL := drop_at p j hjl
      have hrl : (p.data.toList.drop (j + 1)).length = p.size - (j + 1) := by rw [List.length_drop, list_len]
      obtain ⟨pp, cc, ev⟩ := own_form hown
      subst ev
      clear hown
      have hcb := p[j].toNat_lt
      obtain ⟨c, e0⟩ : ∃ c, p[j].toNat = c := ⟨_, rfl⟩
      rw [e0] at hcb
      by_cases hc : c < 32
      · rcases Nat.lt_or_ge size (l'.length + c + 1) with hs1 | hs1
        · have HF : Hid _ := pair_eq (unpB_run1 (size := size) (o := l') hL e0 hc hs1)
          clear hL hrl
          go_wp2
          go_ret2
          exact ⟨by rw [HR.out, ← HE.out, HF.out]; rfl, HB.out⟩
        · rcases Nat.lt_or_ge (p.size - (j + 1)) (c + 1) with hs2 | hs2
          · have HF : Hid _ := pair_eq (unpB_run2 (size := size) (o := l') hL e0 hc (by omega) (by rw [hrl]; exact hs2))
            clear hL hrl
            go_wp2
            go_ret2
            exact ⟨by rw [HR.out, ← HE.out, HF.out]; rfl, HB.out⟩
          · have HF : Hid _ := unpB_run3 (size := size) (o := l') hL e0 hc (by omega) (by rw [hrl]; omega)
            clear hL hrl
            go_wp2_with (at_builtin; go_must (refine Lib.wpList_append_own_string _ rfl _ _ 22 9 rfl w.heap.size 5 i0 Try.underlying22 Try.underlying9 hi hz0 hz1 hz2 _ _ _ rfl HW.out _ rfl ?c1 ?c2 ?c3 ?_))
            case c1 => unfold maxLen; simp only [ByteArray.size_extract]; omega
            case c2 => simp only [ByteArray.size_extract]; omega
            case c3 => omega
            · intro v2 w2 hown2 hgrow2 _
              have HW2 : Hid (w2.ownsRow w.heap.size 5 1 v2 (l' ++ (p.data.toList.drop (j + 1)).take (c + 1)).length (bcells (l' ++ (p.data.toList.drop (j + 1)).take (c + 1)))) := by
                have e1 : (p.extract (j + 1) (j + 1 + c + 1)).data.toList = (p.data.toList.drop (j + 1)).take (c + 1) := by rw [ext_any]; congr 1; omega
                show World.ownsRow _ _ _ _ _ _ _
                rw [← e1, bcells_str, List.length_append, e1, List.length_take, List.length_drop, list_len, Nat.min_eq_left (by omega)]
                rw [show min (j + 1 + c + 1) p.size - (j + 1) = c + 1 by omega] at hown2
                exact hown2
              have HB2 : Hid (Below w.heap.size w w2) := HB.out.grown hgrow2 (by omega) (fun k hk => (World.ownsRow.lt HW.out k hk).1)
              clear hown2 hgrow2
              go_wp2
              go_roundw
              case rel => exact ⟨j + 1 + (c + 1), _, by go_num, by omega, HW2.out, by rw [← HE.out, HF.out]; congr 1; rw [List.drop_drop], by simp; omega, HB2.out⟩
              case measure => simp [intOf]; omega
      · have h32 : 32 ≤ (c : Int) := by omega
        have h256 : (c : Int) < 256 := by omega
        by_cases h7 : c / 32 = 7
        · have hdv : (c : Int) / 32 = 7 := by omega
          rcases Nat.lt_or_ge (j + 2) p.size with hs | hs
          · have HF0 := unpB_copy (size := size) (o := l') hL e0 hc (hd_some3 h7 hs)
            have hxb := p[j + 1].toNat_lt
            have hyb := p[j + 2].toNat_lt
            obtain ⟨x, e1⟩ : ∃ x, p[j + 1].toNat = x := ⟨_, rfl⟩
            obtain ⟨y, e2⟩ : ∃ y, p[j + 2].toNat = y := ⟨_, rfl⟩
            rw [e1, e2] at HF0
            rw [e1] at hxb
            rw [e2] at hyb
            obtain ⟨nn, en⟩ : ∃ nn, 9 + x = nn := ⟨_, rfl⟩
            obtain ⟨b, eb⟩ : ∃ b, c % 32 * 256 + y + 1 = b := ⟨_, rfl⟩
            have en' : (9 : Int) + (x : Int) = (nn : Int) := by omega
            have eb' : (c : Int) % 32 * 256 + (y : Int) + 1 = (b : Int) := by omega
            rw [en, eb] at HF0
            clear hL hrl hc h7 hcb
            by_cases hs1 : size < l'.length + nn
            · rw [if_pos hs1] at HF0
              have HF : Hid _ := pair_eq HF0
              clear HF0
              go_wp2
              go_ret2
              exact ⟨by rw [HR.out, ← HE.out, HF.out]; rfl, HB.out⟩
            · rw [if_neg hs1] at HF0
              by_cases hs2 : l'.length < b
              · rw [if_pos hs2] at HF0
                have HF : Hid _ := pair_eq HF0
                clear HF0
                go_wp2
                go_ret2
                exact ⟨by rw [HR.out, ← HE.out, HF.out]; rfl, HB.out⟩
              · rw [if_neg hs2] at HF0
                have HF : Hid _ := HF0
                clear HF0
                go_wp2
                go_loopw [6, 11] (fun v i wr => ∃ k : Nat, k ≤ nn ∧ i = .int .i64 k ∧ wr.ownsRow w.heap.size 5 1 v (copyN k b l').length (bcells (copyN k b l')) ∧ Below w.heap.size w wr) (fun _ i _ => nn - (intOf i).toNat)
                case atStart => exact ⟨0, by omega, rfl, HW.out, HB.out⟩
                case round =>
                  obtain ⟨k, hk, rfl, hown, hbel⟩ := hrel
                  have HB3 : Hid (Below w.heap.size w wr) := hbel
                  have HW3 : Hid (wr.ownsRow w.heap.size 5 1 u6 (copyN k b l').length (bcells (copyN k b l'))) := hown
                  clear hown hbel
                  by_cases hlt : k < nn
                  · have hlen := copyN_length k b l'
                    have HT0 : copyN (k + 1) b l' = copyN k b l' ++ [(copyN k b l').getD ((copyN k b l').length - b) 0] := copyN_succ k b l'
                    have hq1 : b ≤ (copyN k b l').length := by omega
                    have hq2 : (copyN k b l').length < 524288 := by omega
                    have hq3 : (copyN k b l').length - b < (copyN k b l').length := by omega
                    clear hlen
                    generalize copyN k b l' = q at *
                    obtain ⟨g, cap, ev, hcell⟩ := own_cell HW3.out (by intro e; rw [e] at hq1; simp at hq1; omega)
                    have hcc := hcell (q.length - b) (by omega)
                    subst ev
                    have hbz : w.heap.size ≤ wr.heap.size := by have := HB3.out.size; omega
                    generalize hx : q.getD (q.length - b) 0 = x at hcc HT0
                    have HT : Hid (copyN (k + 1) b l' = q ++ [x]) := HT0
                    clear hcell hx HT0
                    go_wp2_with (at_builtin; go_must (refine wpList_append_own _ rfl _ _ 22 rfl w.heap.size 5 i0 (.int .u8 0) 1 1 Try.underlying22 hi hz0 hz1 hz2 rfl (by decide) _ _ _ rfl (World.ownsRow.alloc HW3.out _) ⟨wr.heap.size, 0, none⟩ 1 1 [.int .u8 (x.toNat : Int)] rfl rfl ?c1 ?c2 ?c3 ?c4 ?c5 ?_))
                    case c1 =>
                      intro t u hj
                      match t, hj with
                      | 0, hj => simp at hj; subst hj; simp [Addr.add]
                    case c2 => intro u hu; simp at hu; subst hu; rfl
                    case c3 => unfold maxLen; omega
                    case c4 => omega
                    case c5 => simp; omega
                    · intro v' w1 hown' hgrow _
                      have HW4 : Hid (w1.ownsRow w.heap.size 5 1 v' (q.length + 1) (bcells q ++ [.int .u8 (x.toNat : Int)])) := hown'
                      clear hown'
                      go_wp2
                      go_roundw
                      case rel =>
                        refine ⟨k + 1, by omega, by go_num, ?_, ?_⟩
                        · rw [HT.out, bcells_snoc, List.length_append]
                          exact HW4.out
                        · exact (HB3.out.alloc hbz _).grown hgrow (by simp; omega) (fun k hk => (World.ownsRow.lt HW3.out k hk).1)
                      case measure => simp [intOf]; omega
                  · have hke : k = nn := by omega
                    subst hke
                    have hzl := copyN_length k b l'
                    go_wp2
                    go_roundw
                    case rel => exact ⟨j + 3, _, by go_num, by omega, HW3.out, by rw [← HE.out, HF.out], by rw [copyN_length]; omega, HB3.out⟩
                    case measure => simp [intOf]; omega
          · have HF : Hid _ := pair_eq (unpB_none (size := size) (o := l') hL e0 hc (hd_none3 h7 hs))
            clear hL hrl hc h7 hcb
            rcases Nat.lt_or_ge (j + 1) p.size with hs2 | hs2
            · have hxb := p[j + 1].toNat_lt
              obtain ⟨x, e1⟩ : ∃ x, p[j + 1].toNat = x := ⟨_, rfl⟩
              rw [e1] at hxb
              go_wp2
              go_ret2
              exact ⟨by rw [HR.out, ← HE.out, HF.out]; rfl, HB.out⟩
            · go_wp2
              go_ret2
              exact ⟨by rw [HR.out, ← HE.out, HF.out]; rfl, HB.out⟩
        · obtain ⟨q, eq⟩ : ∃ q, c / 32 = q := ⟨_, rfl⟩
          have hdv : (c : Int) / 32 = (q : Int) := by omega
          have hq1 : 1 ≤ q := by omega
          have hq7 : q < 7 := by omega
          have hqb : ((q : Int) == 7) = false := by simp; omega
          rcases Nat.lt_or_ge (j + 1) p.size with hs | hs
          · have HF0 := unpB_copy (size := size) (o := l') hL e0 hc (hd_some2 h7 hs)
            have hyb := p[j + 1].toNat_lt
            obtain ⟨y, e2⟩ : ∃ y, p[j + 1].toNat = y := ⟨_, rfl⟩
            rw [e2, eq] at HF0
            rw [e2] at hyb
            obtain ⟨nn, en⟩ : ∃ nn, q + 2 = nn := ⟨_, rfl⟩
            obtain ⟨b, eb⟩ : ∃ b, c % 32 * 256 + y + 1 = b := ⟨_, rfl⟩
            have en' : (q : Int) + 2 = (nn : Int) := by omega
            have eb' : (c : Int) % 32 * 256 + (y : Int) + 1 = (b : Int) := by omega
            rw [en, eb] at HF0
            clear hL hrl hc h7 hcb eq eb
            by_cases hs1 : size < l'.length + nn
            · rw [if_pos hs1] at HF0
              have HF : Hid _ := pair_eq HF0
              clear HF0
              go_wp2
              go_ret2
              exact ⟨by rw [HR.out, ← HE.out, HF.out]; rfl, HB.out⟩
            · rw [if_neg hs1] at HF0
              by_cases hs2 : l'.length < b
              · rw [if_pos hs2] at HF0
                have HF : Hid _ := pair_eq HF0
                clear HF0
                go_wp2
                go_ret2
                exact ⟨by rw [HR.out, ← HE.out, HF.out]; rfl, HB.out⟩
              · rw [if_neg hs2] at HF0
                have HF : Hid _ := HF0
                clear HF0
                go_wp2
                go_loopw [6, 11] (fun v i wr => ∃ k : Nat, k ≤ nn ∧ i = .int .i64 k ∧ wr.ownsRow w.heap.size 5 1 v (copyN k b l').length (bcells (copyN k b l')) ∧ Below w.heap.size w wr) (fun _ i _ => nn - (intOf i).toNat)
                case atStart => exact ⟨0, by omega, rfl, HW.out, HB.out⟩
                case round =>
                  obtain ⟨k, hk, rfl, hown, hbel⟩ := hrel
                  have HB3 : Hid (Below w.heap.size w wr) := hbel
                  have HW3 : Hid (wr.ownsRow w.heap.size 5 1 u6 (copyN k b l').length (bcells (copyN k b l'))) := hown
                  clear hown hbel
                  by_cases hlt : k < nn
                  · have hlen := copyN_length k b l'
                    have HT0 : copyN (k + 1) b l' = copyN k b l' ++ [(copyN k b l').getD ((copyN k b l').length - b) 0] := copyN_succ k b l'
                    have hq1 : b ≤ (copyN k b l').length := by omega
                    have hq2 : (copyN k b l').length < 524288 := by omega
                    have hq3 : (copyN k b l').length - b < (copyN k b l').length := by omega
                    clear hlen
                    generalize copyN k b l' = q at *
                    obtain ⟨g, cap, ev, hcell⟩ := own_cell HW3.out (by intro e; rw [e] at hq1; simp at hq1; omega)
                    have hcc := hcell (q.length - b) (by omega)
                    subst ev
                    have hbz : w.heap.size ≤ wr.heap.size := by have := HB3.out.size; omega
                    generalize hx : q.getD (q.length - b) 0 = x at hcc HT0
                    have HT : Hid (copyN (k + 1) b l' = q ++ [x]) := HT0
                    clear hcell hx HT0
                    go_wp2_with (at_builtin; go_must (refine wpList_append_own _ rfl _ _ 22 rfl w.heap.size 5 i0 (.int .u8 0) 1 1 Try.underlying22 hi hz0 hz1 hz2 rfl (by decide) _ _ _ rfl (World.ownsRow.alloc HW3.out _) ⟨wr.heap.size, 0, none⟩ 1 1 [.int .u8 (x.toNat : Int)] rfl rfl ?c1 ?c2 ?c3 ?c4 ?c5 ?_))
                    case c1 =>
                      intro t u hj
                      match t, hj with
                      | 0, hj => simp at hj; subst hj; simp [Addr.add]
                    case c2 => intro u hu; simp at hu; subst hu; rfl
                    case c3 => unfold maxLen; omega
                    case c4 => omega
                    case c5 => simp; omega
                    · intro v' w1 hown' hgrow _
                      have HW4 : Hid (w1.ownsRow w.heap.size 5 1 v' (q.length + 1) (bcells q ++ [.int .u8 (x.toNat : Int)])) := hown'
                      clear hown'
                      go_wp2
                      go_roundw
                      case rel =>
                        refine ⟨k + 1, by omega, by go_num, ?_, ?_⟩
                        · rw [HT.out, bcells_snoc, List.length_append]
                          exact HW4.out
                        · exact (HB3.out.alloc hbz _).grown hgrow (by simp; omega) (fun k hk => (World.ownsRow.lt HW3.out k hk).1)
                      case measure => simp [intOf]; omega
                  · have hke : k = nn := by omega
                    subst hke
                    have hzl := copyN_length k b l'
                    go_wp2
                    go_roundw
                    case rel => exact ⟨j + 2, _, by go_num, by omega, HW3.out, by rw [← HE.out, HF.out], by rw [copyN_length]; omega, HB3.out⟩
                    case measure => simp [intOf]; omega
          · have HF : Hid _ := pair_eq (unpB_none (size := size) (o := l') hL e0 hc (hd_none2 h7 hs))
            clear hL hrl hc h7 hcb eq
            go_wp2
            go_ret2
            exact ⟨by rw [HR.out, ← HE.out, HF.out]; rfl, HB.out⟩
theorem refUnpack_any (p : ByteArray) (size : Int) (hm : p.size ≤ 140737488355328) (w : World) :
    Calls Try.prog 11 #[.string p, .int .i64 size] w fun e w' => e = .returned (unpT p.data.toList size) ∧ Below w.heap.size w w' := by
  by_cases h : size < 1 ∨ 524288 < size
  · exact refUnpack_arg p size h w
  · have := refUnpack_go p size.toNat (by omega) (by omega) hm w
    rw [Int.toNat_of_nonneg (by omega)] at this
    exact this
end Go.Proofs.Ythjcbolbbdclnaa
