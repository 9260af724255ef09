import Derived.Test.YtpckadpnedfkkaaDoorGFSet
import Derived.Deep.Cut
namespace Go.Proofs.YtpckadpnedfkkaaDoor
open Go.RowKit Gb
set_option linter.unusedVariables false
def litT (l : List UInt8) : Value := match lit l with
  | some x => .tuple #[.string (strB x), .bool true]
  | none => .tuple #[.string ⟨#[]⟩, .bool false]
theorem litT_some {l x : List UInt8} (h : lit l = some x) : litT l = .tuple #[.string (strB x), .bool true] := by unfold litT; rw [h]
theorem litT_none {l : List UInt8} (h : lit l = none) : litT l = .tuple #[.string ⟨#[]⟩, .bool false] := by unfold litT; rw [h]
theorem lit_wild {l : List UInt8} (h : l ≠ []) (hw : l.getD 0 0 = 42 ∨ l.getD 0 0 = 63 ∨ l.getD 0 0 = 91) : lit l = none := by
  unfold lit
  rw [parse_cons h]
  have : ((stepF l).1.any || (stepF l).1.set) = true := by
    unfold stepF
    rcases hw with e | e | e
    · rw [if_pos e]; rfl
    · rw [if_neg (by rw [e]; decide), if_pos e]; rfl
    · rw [if_neg (by rw [e]; decide), if_neg (by rw [e]; decide), if_pos e]; rfl
  simp only [litOf]
  rw [if_pos this]
theorem lit_plain {l : List UInt8} (h : l ≠ []) (h1 : ¬ l.getD 0 0 = 42) (h2 : ¬ l.getD 0 0 = 63) (h3 : ¬ l.getD 0 0 = 91) : lit l = (lit (l.drop (firstN l))).map (firstB l :: ·) := by
  unfold lit
  rw [parse_cons h]
  have e : stepF l = (oneSt (firstB l), l.drop (firstN l)) := by
    unfold stepF
    rw [if_neg h1, if_neg h2, if_neg h3]
  rw [e]
  simp only [litOf]
  rw [if_neg (by simp [oneSt])]
  rfl
theorem lit_nil : lit [] = some [] := rfl
set_option maxHeartbeats 2000000 in
set_option maxRecDepth 20000 in
theorem literal_any (s : ByteArray) (hm : s.size ≤ 140737488351232) (w : World) :
    Calls Tryd.prog 14 #[.string s] w fun e w' => e = .returned (litT s.data.toList) ∧ Below w.heap.size w w' := by
  obtain ⟨i0, hi, hz0, hz1, hz2⟩ := info_parts info5
  have hmk := run_make w 53 5 i0 _ Tryd.underlying53 hi hz0 .i64 .i64 0 (s.size : Int) (by omega) (by omega) (by rw [hz2]; omega) (by omega)
  rw [hz1] at hmk
  obtain ⟨cs, hcs⟩ : ∃ cs, madeCells (Value.int .u8 0).cells ((s.size : Int).toNat * 1) = cs := ⟨_, rfl⟩
  have HMK : Hid ((w.alloc (.cells cs 5)).ownsRow w.heap.size 5 1 (.slice (some ⟨w.heap.size, 0, none⟩) 0 s.size) 0 []) :=
    World.ownsRow_made w cs s.size (Nat.le_refl _) (by unfold maxLen; omega) (by rw [← hcs, size_madeCells]; omega)
  rw [hcs, show (s.size : Int).toNat = s.size by omega, show (0 : Int).toNat = 0 from rfl] at hmk
  go_enter Tryd.func14, Tryd.ntmps14
  go_wp2
  go_loopw [4, 5, 6] (fun v q _ wr => ∃ (r : ByteArray) (acc : List UInt8), q = .string r ∧ wr.ownsRow w.heap.size 5 1 v acc.length (bcells acc) ∧ (lit r.data.toList).map (acc ++ ·) = lit s.data.toList ∧ acc.length + r.size ≤ s.size ∧ Below w.heap.size w wr) (fun _ q _ _ => sizeS q)
  case atStart => exact ⟨s, [], rfl, HMK.out, by cases lit s.data.toList <;> rfl, by simp, by go_grown⟩
  case round =>
    obtain ⟨r, acc, rfl, hown, hlt, hsz, hbel⟩ := hrel
    have HW : Hid (wr.ownsRow w.heap.size 5 1 u4 acc.length (bcells acc)) := hown
    have HL : Hid _ := hlt
    have HB : Hid (Below w.heap.size w wr) := hbel
    have hbz : w.heap.size ≤ wr.heap.size := hbel.size
    clear hbel hlt hmk
    by_cases hrz : r.size = 0
    · have hrem : r.toList.isEmpty = true := str_empty hrz
      have HR : Hid (litT s.data.toList = .tuple #[.string (strB acc), .bool true]) := by
        apply litT_some
        rw [← HL.out, List.length_eq_zero_iff.1 (show r.data.toList.length = 0 by rw [list_len]; exact hrz), lit_nil]
        simp
      obtain ⟨pp, cc, ev, hcv⟩ := own_text hown
      subst ev
      clear hown
      go_wp2
      go_ret2
      exact ⟨by rw [HR.out]; rfl, HB.out⟩
    · have hrem : r.toList.isEmpty = false := str_full hrz
      have hr0 : 0 < r.size := by omega
      have hne : r.data.toList ≠ [] := fun x => hrz (by rw [← list_len, x]; rfl)
      obtain ⟨pv, cv, ev⟩ := own_form hown
      subst ev
      clear hown
      obtain ⟨c, ec⟩ : ∃ c, r[0].toNat = c := ⟨_, rfl⟩
      by_cases hw : c = 42 ∨ c = 63 ∨ c = 91
      · have HR : Hid (litT s.data.toList = .tuple #[.string ⟨#[]⟩, .bool false]) := by
          apply litT_none
          rw [← HL.out, lit_wild hne]
          · rfl
          · rw [getD_at r 0 hr0]
            rcases hw with h | h | h
            · exact Or.inl (UInt8.toNat_inj.1 (ec.trans h))
            · exact Or.inr (Or.inl (UInt8.toNat_inj.1 (ec.trans h)))
            · exact Or.inr (Or.inr (UInt8.toNat_inj.1 (ec.trans h)))
        rcases hw with rfl | rfl | rfl
        all_goals
          go_wp2
          go_ret2
          exact ⟨by rw [HR.out]; rfl, HB.out⟩
      · have q1 : ((c : Int) == 42) = false := by simp; omega
        have q2 : ((c : Int) == 63) = false := by simp; omega
        have q3 : ((c : Int) == 91) = false := by simp; omega
        have hg : ∀ n : UInt8, n.toNat ≠ c → ¬ r.data.toList.getD 0 0 = n := fun n hn e => hn (by rw [getD_at r 0 hr0] at e; rw [← e]; exact ec)
        have HN : Hid _ := lit_plain hne (hg 42 (by show (42 : Nat) ≠ c; omega)) (hg 63 (by show (63 : Nat) ≠ c; omega)) (hg 91 (by show (91 : Nat) ≠ c; omega))
        clear hg hw
        go_upto_region 10 with fail
        go_wp2_with fail
        refine (firstByte_any r hr0 (by omega) _).mono ?_
        rintro e w2 ⟨rfl, nd, hw2⟩
        have HW2 : Hid (w2.ownsRow w.heap.size 5 1 (.slice pv acc.length cv) acc.length (bcells acc)) := by rw [hw2]; exact own_keep HW.out (fun _ _ _ => rfl)
        have HB2 : Hid (Below w.heap.size w w2) := by rw [hw2]; exact below_dn HB.out nd
        have hz2' : w.heap.size ≤ w2.heap.size := HB2.out.size
        clear hw2
        unfold firstT
        obtain ⟨rb, erb⟩ : ∃ rb, dropB r (firstN r.data.toList) = rb := ⟨_, rfl⟩
        have hpos := firstN_pos r.data.toList
        have HRB : Hid (rb.data.toList = r.data.toList.drop (firstN r.data.toList) ∧ rb.size < r.size) := by
          refine ⟨by rw [← erb, dropB_list], ?_⟩
          rw [← erb, dropB_size]; omega
        rw [erb]
        clear erb hpos
        obtain ⟨x, ex⟩ : ∃ x, firstB r.data.toList = x := ⟨_, rfl⟩
        rw [ex] at HN ⊢
        clear ex
        go_upto_region 11 with fail
        go_wp2_with (at_builtin; refine wpList_append_own _ rfl _ _ 53 rfl w.heap.size 5 i0 (.int .u8 0) 1 1 Tryd.underlying53 hi hz0 hz1 hz2 rfl (by decide) _ _ _ rfl (World.ownsRow.alloc HW2.out _) ⟨w2.heap.size, 0, none⟩ 1 1 [.int .u8 (x.toNat : Int)] rfl rfl ?c1 ?c2 ?c3 ?c4 ?c5 ?_)
        case c1 =>
          intro t u hj
          match t, hj with
          | 0, hj => simp at hj; subst hj; simp [Addr.add]
        case c2 => intro u hu; simp at hu; subst hu; rfl
        case c3 => unfold maxLen; omega
        case c4 => omega
        case c5 => simp; omega
        · intro v' w4 hown' hgrow _
          have HW4 : Hid (w4.ownsRow w.heap.size 5 1 v' (acc ++ [x]).length (bcells (acc ++ [x]))) := by
            show w4.ownsRow _ _ _ _ _ _
            rw [bcells_snoc, List.length_append]
            exact hown'
          have HB4 : Hid (Below w.heap.size w w4) := (HB2.out.alloc hz2' _).grown hgrow (by simp; omega) (fun k hk => (World.ownsRow.lt HW2.out k hk).1)
          clear hown' hgrow
          go_wp2
          go_roundw
          case rel =>
            refine ⟨rb, _, rfl, HW4.out, ?_, by have := HRB.out.2; simp; omega, HB4.out⟩
            rw [← HL.out, HN.out, HRB.out.1]
            cases lit (r.data.toList.drop (firstN r.data.toList)) <;> simp
          case measure => exact HRB.out.2
end Go.Proofs.YtpckadpnedfkkaaDoor
