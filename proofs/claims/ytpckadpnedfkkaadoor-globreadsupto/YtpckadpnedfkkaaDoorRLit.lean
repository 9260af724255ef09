import Derived.Test.YtpckadpnedfkkaaDoorRMatch
import Derived.Test.YtpckadpnedfkkaaDoorGLit
namespace Go.Proofs.YtpckadpnedfkkaaDoor
open Go.RowKit Gb
set_option linter.unusedVariables false
def litP (P : List St) : Value := match litOf P with
  | some x => .tuple #[.string (strB x), .bool true]
  | none => .tuple #[.string ⟨#[]⟩, .bool false]
theorem litP_some {P : List St} {x : List UInt8} (h : litOf P = some x) : litP P = .tuple #[.string (strB x), .bool true] := by unfold litP; rw [h]
theorem litP_none {P : List St} (h : litOf P = none) : litP P = .tuple #[.string ⟨#[]⟩, .bool false] := by unfold litP; rw [h]
theorem litP_T (l : List UInt8) : litP (parse l) = litT l := rfl
theorem lit_stop {P : List St} {k : Nat} {st : St} {acc : List UInt8} (h : (litOf (P.drop k)).map (acc ++ ·) = litOf P) (hk : P[k]? = some st) (hs : (st.any || st.set) = true) : litOf P = none := by
  obtain ⟨hlt, e⟩ := List.getElem?_eq_some_iff.1 hk
  rw [List.drop_eq_getElem_cons hlt, e] at h
  rw [← h]
  simp only [litOf]
  rw [if_pos hs]; rfl
theorem lit_more {P : List St} {k : Nat} {st : St} {acc : List UInt8} (h : (litOf (P.drop k)).map (acc ++ ·) = litOf P) (hk : P[k]? = some st) (h1 : st.any = false) (h2 : st.set = false) : (litOf (P.drop (k + 1))).map ((acc ++ [st.one]) ++ ·) = litOf P := by
  obtain ⟨hlt, e⟩ := List.getElem?_eq_some_iff.1 hk
  rw [List.drop_eq_getElem_cons hlt, e] at h
  rw [← h]
  simp only [litOf]
  rw [if_neg (by rw [h1, h2]; decide)]
  cases litOf (P.drop (k + 1)) <;> simp
theorem lit_end {P : List St} {acc : List UInt8} (h : (litOf (P.drop P.length)).map (acc ++ ·) = litOf P) : litOf P = some acc := by
  rw [← h, List.drop_length]
  simp [litOf]
set_option maxHeartbeats 1000000 in
set_option maxRecDepth 20000 in
theorem rlit_steps (p : ByteArray) (P : List St) (hPl : P.length ≤ 3000000) (hst : ∀ w, Calls Tryd.prog 20 #[.string p] w fun e w' => ∃ v, e = .returned v ∧ w'.ownsRow w.heap.size 51 259 v P.length (rcells P) ∧ Below w.heap.size w w') (w : World) :
    Calls Tryd.prog 15 #[.string p] w fun e w' => e = .returned (litP P) ∧ Below w.heap.size w w' := by
  have HST : Hid _ := hst
  clear hst
  obtain ⟨i0, hi, hz0, hz1, hz2⟩ := info_parts info5
  go_enter Tryd.func15, Tryd.ntmps15
  go_wp2_with fail
  refine (HST.out _).mono ?_
  rintro e w1 ⟨v, rfl, hown, hb1⟩
  have HO : Hid (w1.ownsRow w.heap.size 51 259 v P.length (rcells P)) := hown
  have HB1 : Hid (Below w.heap.size w w1) := hb1
  have hsz1 := hb1.size
  clear hown hb1
  obtain ⟨q, c, rfl⟩ := own_form HO.out
  go_wp2
  go_loopw [5, 6] (fun v i wr => ∃ (k : Nat) (acc : List UInt8), i = .int .i64 (k : Int) ∧ k ≤ P.length ∧ acc.length ≤ k ∧ wr.ownsRow w1.heap.size 5 1 v acc.length (bcells acc) ∧ (litOf (P.drop k)).map (acc ++ ·) = litOf P ∧ Below w1.heap.size w1 wr) (fun _ i _ => P.length - (intOf i).toNat)
  case atStart => exact ⟨0, [], rfl, Nat.zero_le _, Nat.le_refl _, World.ownsRow_nil _ _ _ _, by cases h : litOf P <;> simp [h], Below.refl _ _⟩
  case round =>
    obtain ⟨k, acc, rfl, hk, hacc, hown, hlit, hbel⟩ := hrel
    have HW : Hid (wr.ownsRow w1.heap.size 5 1 u5 acc.length (bcells acc)) := hown
    have HL : Hid ((litOf (P.drop k)).map (acc ++ ·) = litOf P) := hlit
    have HB : Hid (Below w1.heap.size w1 wr) := hbel
    have hbz : w1.heap.size ≤ wr.heap.size := hbel.size
    have HBW : Hid (Below w.heap.size w wr) := HB1.out.trans (hbel.mono hsz1)
    clear hbel hlit
    by_cases hlt : k < P.length
    · obtain ⟨st, hst⟩ : ∃ st, P[k]? = some st := ⟨P[k], List.getElem?_eq_getElem hlt⟩
      obtain ⟨gl, capl, ev, hgl0, hgl, hsa⟩ := steps_at HO.out (by intro e; rw [e] at hlt; simp at hlt)
      injection ev with ev1 ev2 ev3
      subst ev1 ev3
      have HSA : Hid (StepsAt wr gl P) := hsa.keep (HB.out.block gl hgl)
      have hkz : (k : Int) < (P.length : Int) := by omega
      clear hsa ev2
      have ca : wr.cell? ⟨gl, k * 259, none⟩ = some (.bool st.any) := by
        have := HSA.out k st hst 0 (.bool st.any) (by unfold scS; exact sc_0 _ _ _ _) (by omega)
        simpa using this
      have cb : wr.cell? ⟨gl, k * 259 + 1, none⟩ = some (.bool st.set) := HSA.out k st hst 1 (.bool st.set) (by unfold scS; exact sc_1 _ _ _ _) (by omega)
      have co : wr.cell? ⟨gl, k * 259 + 2, none⟩ = some (.int .u8 (st.one.toNat : Int)) := HSA.out k st hst 2 _ (by unfold scS; exact sc_2 _ _ _ _) (by omega)
      obtain ⟨pv, cv, ev⟩ := own_form hown
      subst ev
      clear hown
      cases hany : st.any
      · rw [hany] at ca
        cases hset : st.set
        · rw [hset] at cb
          have HN : Hid ((litOf (P.drop (k + 1))).map ((acc ++ [st.one]) ++ ·) = litOf P) := lit_more HL.out hst hany hset
          have hx8 := st.one.toNat_lt
          generalize hone : st.one = x at *
          have hlen : acc.length + 1 ≤ 3000001 := by omega
          clear hany hset hst
          go_upto_region 8 with fail
          go_wp2_with (at_builtin; refine wpList_append_own _ rfl _ _ 53 rfl w1.heap.size 5 i0 (.int .u8 0) 1 1 Tryd.underlying53 hi hz0 hz1 hz2 rfl (by decide) _ _ _ rfl (World.ownsRow.alloc HW.out _) ⟨wr.heap.size, 0, none⟩ 1 1 [.int .u8 (x.toNat : Int)] rfl rfl ?c1 ?c2 ?c3 ?c4 ?c5 ?_)
          case c1 =>
            intro t u hj
            match t, hj with
            | 0, hj => simp at hj; subst hj; simp [Addr.add]
          case c2 => intro u hu; simp at hu; subst hu; rfl
          case c3 => unfold maxLen; omega
          case c4 => omega
          case c5 => simp; omega
          · intro v' w4 hown' hgrow _
            have HW4 : Hid (w4.ownsRow w1.heap.size 5 1 v' (acc ++ [x]).length (bcells (acc ++ [x]))) := by
              show w4.ownsRow _ _ _ _ _ _
              rw [bcells_snoc, List.length_append]
              exact hown'
            have HB4 : Hid (Below w1.heap.size w1 w4) := (HB.out.alloc hbz _).grown hgrow (by simp; omega) (fun k hk => (World.ownsRow.lt HW.out k hk).1)
            clear hown' hgrow
            go_wp2
            go_roundw
            case rel => exact ⟨k + 1, _, by go_num, hlt, by simp; omega, HW4.out, HN.out, HB4.out⟩
            case measure => simp [intOf]; omega
        · rw [hset] at cb
          have HR : Hid _ := litP_none (lit_stop HL.out hst (by rw [hset]; simp))
          clear hany hset hst
          go_wp2
          go_ret2
          exact ⟨by rw [HR.out]; rfl, HBW.out⟩
      · rw [hany] at ca
        have HR : Hid _ := litP_none (lit_stop HL.out hst (by rw [hany]; simp))
        clear hany hst
        go_wp2
        go_ret2
        exact ⟨by rw [HR.out]; rfl, HBW.out⟩
    · have hke : k = P.length := by omega
      have HR : Hid _ := litP_some (lit_end (by have := HL.out; rw [hke] at this; exact this))
      obtain ⟨pp, cc, ev, hcv⟩ := own_text hown
      subst ev
      clear hown
      go_wp2
      go_ret2
      exact ⟨by rw [HR.out]; rfl, HBW.out⟩
end Go.Proofs.YtpckadpnedfkkaaDoor
