import Derived.Test.YtpckadpnedfkkaaDoorRStepM
import Derived.Test.YtpckadpnedfkkaaDoorRSet
namespace Go.Proofs.YtpckadpnedfkkaaDoor
open Go.RowKit Gb
set_option linter.unusedVariables false
theorem store_at3 {w w' : World} {g : Nat} {f' : UInt8 → Bool} (h : (storeCells ⟨g, 3, none⟩ (bt f').toList 0).run Tryd.prog w = .ok () w') : (Instr.storeAt 49 (.pointer (some ⟨g, 3, none⟩)) (.agg (bt f'))).run Tryd.prog w = .ok () w' := by
  simp only [Instr.storeAt, Instr.sureAddr, Sem.run_bind, Sem.run_pure, Result.andThen]
  obtain ⟨_, hzs9⟩ := zero_of_info info49
  cases hq : Tryd.prog.info? 49 with
  | none => simp [hq] at hzs9
  | some i =>
    have hs : (bt f').size = i.size := by rw [bt_size]; simp [hq] at hzs9; omega
    simpa [storeVar, sizeOf, typeInfo, hq, Value.cells, hs] using h
theorem d_ne (s : ByteArray) (i : Nat) (h : i < s.size) : s.data.toList.drop i ≠ [] := fun x => by have := d_len s i; rw [x] at this; simp at this; omega
theorem d_step {s : ByteArray} {i j : Nat} {st : St} (h : i < s.size) (e1 : (stepF (s.data.toList.drop i)).1 = st) (e2 : (stepF (s.data.toList.drop i)).2 = s.data.toList.drop j) : st :: parse (s.data.toList.drop j) = parse (s.data.toList.drop i) := by
  rw [parse_cons (d_ne s i h), e1, e2]
theorem d_star (s : ByteArray) (i : Nat) (h : i < s.size) (e : s[i].toNat = 42) : starSt :: parse (s.data.toList.drop (i + 1)) = parse (s.data.toList.drop i) := by
  have e' : (s.data.toList.drop i).getD 0 0 = 42 := by rw [d_at0 s i h]; exact UInt8.toNat_inj.1 e
  apply d_step h
  · unfold stepF; rw [if_pos e']
  · unfold stepF; rw [if_pos e', List.drop_drop]
theorem d_q (s : ByteArray) (i : Nat) (h : i < s.size) (e : s[i].toNat = 63) : qSt :: parse (s.data.toList.drop (i + 1)) = parse (s.data.toList.drop i) := by
  have e' : (s.data.toList.drop i).getD 0 0 = 63 := by rw [d_at0 s i h]; exact UInt8.toNat_inj.1 e
  apply d_step h
  · unfold stepF; rw [if_neg (by rw [e']; decide), if_pos e']
  · unfold stepF; rw [if_neg (by rw [e']; decide), if_pos e', List.drop_drop]
theorem d_set (s : ByteArray) (i x : Nat) (h : i < s.size) (e : s[i].toNat = 91) (hx : s.data.toList.drop x = (setF (s.data.toList.drop (i + 1))).2) : (⟨false, true, 0, (setF (s.data.toList.drop (i + 1))).1⟩ : St) :: parse (s.data.toList.drop x) = parse (s.data.toList.drop i) := by
  have e' : (s.data.toList.drop i).getD 0 0 = 91 := by rw [d_at0 s i h]; exact UInt8.toNat_inj.1 e
  apply d_step h
  · unfold stepF; rw [if_neg (by rw [e']; decide), if_neg (by rw [e']; decide), if_pos e', List.drop_drop]
  · unfold stepF; rw [if_neg (by rw [e']; decide), if_neg (by rw [e']; decide), if_pos e', List.drop_drop, hx]
theorem d_byte (s : ByteArray) (i : Nat) (h : i < s.size) (h1 : ¬ s[i].toNat = 42) (h2 : ¬ s[i].toNat = 63) (h3 : ¬ s[i].toNat = 91) : oneSt (firstB (s.data.toList.drop i)) :: parse (s.data.toList.drop (i + firstN (s.data.toList.drop i))) = parse (s.data.toList.drop i) := by
  have g : ∀ c : UInt8, c.toNat ≠ s[i].toNat → ¬ (s.data.toList.drop i).getD 0 0 = c := fun c hc x => hc (by rw [d_at0 s i h] at x; rw [x])
  apply d_step h
  · unfold stepF; rw [if_neg (g 42 (fun x => h1 x.symm)), if_neg (g 63 (fun x => h2 x.symm)), if_neg (g 91 (fun x => h3 x.symm))]
  · unfold stepF; rw [if_neg (g 42 (fun x => h1 x.symm)), if_neg (g 63 (fun x => h2 x.symm)), if_neg (g 91 (fun x => h3 x.symm)), List.drop_drop]
theorem d_fe (s : ByteArray) (i : Nat) (h : i + 1 < s.size) (e : s[i].toNat = 92) : firstB (s.data.toList.drop i) = s[i + 1] ∧ firstN (s.data.toList.drop i) = 2 := by
  have he : esc (s.data.toList.drop i) = true := by unfold esc; rw [d_at0 s i (by omega), d_len, show s[i] = 92 from UInt8.toNat_inj.1 e]; simp; omega
  unfold firstB firstN
  rw [if_pos he, if_pos he, d_at s i 1 h]; exact ⟨rfl, rfl⟩
theorem d_fo (s : ByteArray) (i : Nat) (h : i < s.size) (e : ¬ (s[i].toNat = 92 ∧ i + 1 < s.size)) : firstB (s.data.toList.drop i) = s[i] ∧ firstN (s.data.toList.drop i) = 1 := by
  have he : esc (s.data.toList.drop i) = false := by
    unfold esc
    rw [d_at0 s i h, d_len]
    apply Bool.eq_false_iff.2
    intro hh
    rw [Bool.and_eq_true, beq_iff_eq, decide_eq_true_iff] at hh
    exact e ⟨by rw [hh.1]; rfl, by omega⟩
  unfold firstB firstN
  rw [if_neg (by rw [he]; decide), if_neg (by rw [he]; decide), d_at0 s i h]; exact ⟨rfl, rfl⟩
set_option maxHeartbeats 20000000 in
set_option maxRecDepth 20000 in
theorem rsteps_any (s : ByteArray) (hm : s.size ≤ 3000000) (w : World) :
    Calls Tryd.prog 20 #[.string s] w fun e w' => ∃ v, e = .returned v ∧ w'.ownsRow w.heap.size 51 259 v (parse s.data.toList).length (rcells (parse s.data.toList)) ∧ Below w.heap.size w w' := by
  obtain ⟨hzv, hzs⟩ := zero_of_info infoT
  obtain ⟨hzv9, hzs9⟩ := zero_of_info info49
  obtain ⟨ie, hie, hz0, hz1, hz2b⟩ := info_parts infoR
  go_enter Tryd.func20, Tryd.ntmps20
  go_wp2
  go_loopw [3, 4, 5, 6, 7, 8] (fun v a _ _ _ _ wr => ∃ (i : Nat) (acc : List St), a = .int .i64 (i : Int) ∧ i ≤ s.size ∧ wr.ownsRow w.heap.size 51 259 v acc.length (rcells acc) ∧ acc ++ parse (s.data.toList.drop i) = parse s.data.toList ∧ acc.length ≤ i ∧ Below w.heap.size w wr) (fun _ a _ _ _ _ _ => s.size - (intOf a).toNat)
  case atStart => exact ⟨0, [], rfl, Nat.zero_le _, World.ownsRow_nil _ _ _ _, by rw [List.drop_zero]; rfl, Nat.zero_le _, Below.refl _ _⟩
  case round =>
    obtain ⟨i, acc, rfl, hi, hown, hpa, hal, hbel⟩ := hrel
    have HW : Hid (wr.ownsRow w.heap.size 51 259 u3 acc.length (rcells acc)) := hown
    have HPA : Hid _ := hpa
    have HB : Hid (Below w.heap.size w wr) := hbel
    have hbz : w.heap.size ≤ wr.heap.size := hbel.size
    clear hpa hbel
    by_cases hlt : i < s.size
    · obtain ⟨pv, cv, ev⟩ := own_form hown
      subst ev
      clear hown
      have hst0 := store_zero wr
      obtain ⟨d, ed⟩ : ∃ d, s[i].toNat = d := ⟨_, rfl⟩
      have hd8 := s[i].toNat_lt
      rw [ed] at hd8
      have hac : acc.length ≤ 3000000 := by omega
      go_upto_region 4 with fail
      go_upto_region 8 with (first
        | (refine wpList_build_at rfl 51 (.agg Z51) rfl (build_zero _) ?_)
        | (refine wpList_store_at rfl 51 _ _ (.pointer (some ⟨wr.heap.size, 0, none⟩)) (.agg Z51) rfl rfl rfl hst0 ?_))
      generalize hw1 : wr.alloc (.cells Z51 51) = w1
      have hr1 : w1.heap[wr.heap.size]? = some (.cells (sc false false 0 (fun _ => false)) 51) := by rw [← hw1]; exact heap_alloc_last wr _
      have HB1 : Hid (Below wr.heap.size wr w1) := by rw [← hw1]; exact (Below.refl _ wr).alloc (Nat.le_refl _) _
      have c0 : w1.cell? ⟨wr.heap.size, 0, none⟩ = some (.bool false) := by rw [cell_of_row _ _ _ _ _ _ hr1, sc_0]
      have c1 : w1.cell? ⟨wr.heap.size, 1, none⟩ = some (.bool false) := by rw [cell_of_row _ _ _ _ _ _ hr1, sc_1]
      have c2 : w1.cell? ⟨wr.heap.size, 2, none⟩ = some (.int .u8 0) := by rw [cell_of_row _ _ _ _ _ _ hr1, sc_2]; rfl
      have cf : ∀ j, w1.frozen? ⟨wr.heap.size, j, none⟩ = false := fun j => frozen_of_row _ _ _ _ _ hr1
      have HR1 : Hid (w1.heap[wr.heap.size]? = some (.cells (sc false false 0 (fun _ => false)) 51)) := hr1
      have HK : Hid (∀ w2 : World, Below wr.heap.size w1 w2 → w2.ownsRow w.heap.size 51 259 (.slice pv acc.length cv) acc.length (rcells acc) ∧ Below w.heap.size w w2) := fun w2 h => ⟨own_keep HW.out (fun k _ hk => (HB1.out.trans h).block k hk), HB.out.trans ((HB1.out.trans h).mono hbz)⟩
      clear hst0 hw1 hr1 HW HB HB1
      generalize wr.heap.size = g at *
      by_cases h42 : d = 42
      · subst h42
        obtain ⟨st, hst⟩ : ∃ st, starSt = st := ⟨_, rfl⟩
        have HSC : Hid (scS st = sc true false 0 (fun _ => false)) := by show _ = _; rw [← hst]; rfl
        have HPC : Hid (st :: parse (s.data.toList.drop (i + 1)) = parse (s.data.toList.drop i)) := by show _ = _; rw [← hst]; exact d_star s i hlt ed
        have HI1 : Hid (i + 1 ≤ s.size) := hlt
        have HI2 : Hid (i + 1 ≤ i + 1) := Nat.le_refl _
        clear hst
        have hrow : (w1.setCell ⟨g, 0, none⟩ (.bool true)).heap[g]? = some (.cells (sc true false 0 (fun _ => false)) 51) := by rw [heap_setCell_same _ _ _ _ _ _ HR1.out, sc_set0]
        have hon : Below g w1 (w1.setCell ⟨g, 0, none⟩ (.bool true)) := ((Only.refl w1 g).set _ _).below (Nat.le_refl _)
        go_upto_region 27 with fail
        generalize w1.setCell ⟨g, 0, none⟩ (.bool true) = w2 at hrow hon ⊢
        have HG2 : Hid (w2.heap[g]? = some (.cells (sc true false 0 (fun _ => false)) 51)) := hrow
        have HW2 : Hid (w2.ownsRow w.heap.size 51 259 (.slice pv acc.length cv) acc.length (rcells acc)) := (HK.out w2 hon).1
        have HB2 : Hid (Below w.heap.size w w2) := (HK.out w2 hon).2
        have hz2 : w.heap.size ≤ w2.heap.size := HB2.out.size
        clear hrow hon
        go_wp2_with (refine wpList_load_at rfl 51 _ (.pointer (some ⟨g, 0, none⟩)) (.agg (sc true false 0 (fun _ => false))) rfl rfl (load_sc HG2.out) ?_)
        refine wp_buildSlice 46 51 1 _ rfl (sc true false 0 (fun _ => false)) ie _ Tryd.underlying46 hie hz0 (by rw [hz1]; decide) (by rw [hz1]; decide) ?_ ?_
        · simp only [List.map_toArray, List.map_cons, List.map_nil]
          exact fill_one hz1 _ true false 0 (fun _ => false)
        go_wp2_with (at_builtin; refine wpList_append_own _ rfl _ _ 46 rfl w.heap.size 51 ie _ 259 259 Tryd.underlying46 hie hz0 hz1 hz2b (sc_size _ _ _ _) (by decide) _ _ _ rfl (World.ownsRow.alloc HW2.out _) ⟨w2.heap.size, 0, none⟩ 1 1 (sc true false 0 (fun _ => false)).toList rfl ?ta0 ?ta1 ?ta2 ?ta3 ?ta4 ?ta5 ?_)
        case ta0 => rw [Array.length_toList, sc_size]
        case ta1 =>
          intro j u hj
          have hadd : (⟨w2.heap.size, 0, none⟩ : Addr).add j = ⟨w2.heap.size, j, none⟩ := by unfold Addr.add; split <;> simp_all
          rw [hadd, cell_of_row _ _ _ _ _ _ (heap_alloc_last w2 _)]
          simpa using hj
        case ta2 => intro u hu; exact (Array.all_eq_true_iff_forall_mem.1 (sc_one true false 0 (fun _ => false))) u (by simpa using hu)
        case ta3 => unfold maxLen; omega
        case ta4 => omega
        case ta5 => first | omega | (simp; omega)
        · intro v' w4 hown' hgrow _
          have HW4 : Hid (w4.ownsRow w.heap.size 51 259 v' (acc ++ [st]).length (rcells (acc ++ [st]))) := by
            show w4.ownsRow _ _ _ _ _ _
            rw [rcells_snoc, List.length_append, HSC.out]
            exact hown'
          have HB4 : Hid (Below w.heap.size w w4) := (HB2.out.alloc hz2 _).grown hgrow (by simp; omega) (fun k hk => (World.ownsRow.lt HW2.out k hk).1)
          clear hown' hgrow
          go_wp2
          go_roundw
          case rel => exact ⟨i + 1, acc ++ [st], by go_num, HI1.out, HW4.out, by rw [List.append_assoc]; show acc ++ (st :: parse (s.data.toList.drop (i + 1))) = _; rw [HPC.out]; exact HPA.out, by simp; have := HI2.out; omega, HB4.out⟩
          case measure => simp [intOf]; have := HI2.out; have := HI1.out; omega
      by_cases h63 : d = 63
      · have q1 : ((63 : Int) == 42) = false := by decide
        subst h63
        obtain ⟨st, hst⟩ : ∃ st, qSt = st := ⟨_, rfl⟩
        have HSC : Hid (scS st = sc false true 0 (fun _ => true)) := by show _ = _; rw [← hst]; rfl
        have HPC : Hid (st :: parse (s.data.toList.drop (i + 1)) = parse (s.data.toList.drop i)) := by show _ = _; rw [← hst]; exact d_q s i hlt ed
        have HI1 : Hid (i + 1 ≤ s.size) := hlt
        have HI2 : Hid (i + 1 ≤ i + 1) := Nat.le_refl _
        clear hst
        have hr0 : (w1.setCell ⟨g, 1, none⟩ (.bool true)).heap[g]? = some (.cells (sc false true 0 (fun _ => false)) 51) := by rw [heap_setCell_same _ _ _ _ _ _ HR1.out, sc_set1]
        have HR0 : Hid _ := hr0
        clear hr0
        go_wp2
        go_loopw [6] (fun a wx => ∃ k : Nat, a = .int .i64 (k : Int) ∧ k ≤ 256 ∧ wx.heap[g]? = some (.cells (sc false true 0 (btw 0 k)) 51) ∧ Below g w1 wx) (fun a _ => 256 - (intOf a).toNat)
        case atStart => exact ⟨0, rfl, by omega, by rw [HR0.out]; congr 3, ((Only.refl w1 g).set _ _).below (Nat.le_refl _)⟩
        case round =>
          obtain ⟨k, rfl, hk, hrk, hbk⟩ := hrel
          by_cases hk2 : k < 256
          · have ck : wr.cell? ⟨g, 3 + k, none⟩ = some (.bool (btw 0 k (UInt8.ofNat k))) := by rw [cell_of_row _ _ _ _ _ _ hrk, sc_3 _ _ _ _ _ hk2]
            have ckf : wr.frozen? ⟨g, 3 + k, none⟩ = false := frozen_of_row _ _ _ _ _ hrk
            have HRk : Hid ((wr.setCell ⟨g, 3 + k, none⟩ (.bool true)).heap[g]? = some (.cells (sc false true 0 (btw 0 (k + 1))) 51)) := by
              show _ = _
              rw [heap_setCell_same _ _ _ _ _ _ hrk, sc_set3 _ _ _ _ _ hk2]
              have := btw_more (fun _ => false) 0 k (Nat.zero_le _) hk2
              have e : ∀ f : UInt8 → Bool, orF (fun _ => false) f = f := fun f => by funext b; unfold orF; simp
              rw [e, e] at this
              rw [this]
            have HBk : Hid (Below g w1 (wr.setCell ⟨g, 3 + k, none⟩ (.bool true))) := hbk.trans (((Only.refl wr g).set _ _).below (Nat.le_refl _))
            clear hrk hbk
            go_wp2
            go_roundw
            case rel => exact ⟨k + 1, by go_num, by omega, HRk.out, HBk.out⟩
            case measure => simp [intOf]; omega
          · have hk3 : k = 256 := by omega
            subst hk3
            have hrow : wr.heap[g]? = some (.cells (sc false true 0 (fun _ => true)) 51) := by
              rw [hrk]
              congr 3
              funext b
              unfold btw
              have := b.toNat_lt
              simp; omega
            have hon : Below g w1 wr := hbk
            clear hrk hbk
            go_upto_region 27 with fail
            generalize wr = w2 at hrow hon ⊢
            have HG2 : Hid (w2.heap[g]? = some (.cells (sc false true 0 (fun _ => true)) 51)) := hrow
            have HW2 : Hid (w2.ownsRow w.heap.size 51 259 (.slice pv acc.length cv) acc.length (rcells acc)) := (HK.out w2 hon).1
            have HB2 : Hid (Below w.heap.size w w2) := (HK.out w2 hon).2
            have hz2 : w.heap.size ≤ w2.heap.size := HB2.out.size
            clear hrow hon
            go_wp2_with (refine wpList_load_at rfl 51 _ (.pointer (some ⟨g, 0, none⟩)) (.agg (sc false true 0 (fun _ => true))) rfl rfl (load_sc HG2.out) ?_)
            refine wp_buildSlice 46 51 1 _ rfl (sc false true 0 (fun _ => true)) ie _ Tryd.underlying46 hie hz0 (by rw [hz1]; decide) (by rw [hz1]; decide) ?_ ?_
            · simp only [List.map_toArray, List.map_cons, List.map_nil]
              exact fill_one hz1 _ false true 0 (fun _ => true)
            go_wp2_with (at_builtin; refine wpList_append_own _ rfl _ _ 46 rfl w.heap.size 51 ie _ 259 259 Tryd.underlying46 hie hz0 hz1 hz2b (sc_size _ _ _ _) (by decide) _ _ _ rfl (World.ownsRow.alloc HW2.out _) ⟨w2.heap.size, 0, none⟩ 1 1 (sc false true 0 (fun _ => true)).toList rfl ?tq0 ?tq1 ?tq2 ?tq3 ?tq4 ?tq5 ?_)
            case tq0 => rw [Array.length_toList, sc_size]
            case tq1 =>
              intro j u hj
              have hadd : (⟨w2.heap.size, 0, none⟩ : Addr).add j = ⟨w2.heap.size, j, none⟩ := by unfold Addr.add; split <;> simp_all
              rw [hadd, cell_of_row _ _ _ _ _ _ (heap_alloc_last w2 _)]
              simpa using hj
            case tq2 => intro u hu; exact (Array.all_eq_true_iff_forall_mem.1 (sc_one false true 0 (fun _ => true))) u (by simpa using hu)
            case tq3 => unfold maxLen; omega
            case tq4 => omega
            case tq5 => first | omega | (simp; omega)
            · intro v' w4 hown' hgrow _
              have HW4 : Hid (w4.ownsRow w.heap.size 51 259 v' (acc ++ [st]).length (rcells (acc ++ [st]))) := by
                show w4.ownsRow _ _ _ _ _ _
                rw [rcells_snoc, List.length_append, HSC.out]
                exact hown'
              have HB4 : Hid (Below w.heap.size w w4) := (HB2.out.alloc hz2 _).grown hgrow (by simp; omega) (fun k hk => (World.ownsRow.lt HW2.out k hk).1)
              clear hown' hgrow
              go_wp2
              go_roundw
              case rel => exact ⟨i + 1, acc ++ [st], by go_num, HI1.out, HW4.out, by rw [List.append_assoc]; show acc ++ (st :: parse (s.data.toList.drop (i + 1))) = _; rw [HPC.out]; exact HPA.out, by simp; have := HI2.out; omega, HB4.out⟩
              case measure => simp [intOf]; have := HI2.out; have := HI1.out; omega
      by_cases h91 : d = 91
      · subst h91
        obtain ⟨ff, hff⟩ : ∃ ff, (setF (s.data.toList.drop (i + 1))).1 = ff := ⟨_, rfl⟩
        have HRS : Hid (∀ w' : World, Calls Tryd.prog 29 #[.string s, .int .i64 ((i : Int) + 1)] w' fun e w'' => ∃ x : Nat, e = .returned (.tuple #[.agg (bt ff), .int .i64 (x : Int)]) ∧ x ≤ s.size ∧ s.data.toList.drop x = (setF (s.data.toList.drop (i + 1))).2 ∧ Below w'.heap.size w' w'') := fun w' => by
          have := rset_any s (i + 1) hlt hm w'
          rw [hff] at this
          exact this
        have hra : (w1.setCell ⟨g, 1, none⟩ (.bool true)).heap[g]? = some (.cells (sc false true 0 (fun _ => false)) 51) := by rw [heap_setCell_same _ _ _ _ _ _ HR1.out, sc_set1]
        have hba : Below g w1 (w1.setCell ⟨g, 1, none⟩ (.bool true)) := ((Only.refl w1 g).set _ _).below (Nat.le_refl _)
        go_upto_region 20 with fail
        generalize w1.setCell ⟨g, 1, none⟩ (.bool true) = wa at hra hba ⊢
        have hga : g < wa.heap.size := row_lt hra
        have HRa : Hid _ := hra
        have HBa : Hid (Below g w1 wa) := hba
        clear hra hba c0 c1 c2 cf
        go_wp2_with fail
        refine (show Calls _ _ _ _ _ from HRS.out _).mono ?_
        rintro e wb ⟨x, rfl, hx1, hx2, hbb⟩
        have hxi : i + 1 ≤ x := by
          have h1 := setF_len (s.data.toList.drop (i + 1))
          rw [← hx2, d_len, d_len] at h1
          omega
        obtain ⟨st, hst⟩ : ∃ st, (⟨false, true, 0, ff⟩ : St) = st := ⟨_, rfl⟩
        have HSC : Hid (scS st = sc false true 0 ff) := by show _ = _; rw [← hst]; rfl
        have HPC : Hid (st :: parse (s.data.toList.drop (x)) = parse (s.data.toList.drop i)) := by show _ = _; rw [← hst]; exact (by rw [← hff]; exact d_set s i x hlt ed hx2)
        have HI1 : Hid (x ≤ s.size) := hx1
        have HI2 : Hid (i + 1 ≤ x) := hxi
        clear hst
        have hrb : wb.heap[g]? = some (.cells (sc false true 0 (fun _ => false)) 51) := (hbb.block g hga).trans HRa.out
        have HBb : Hid (Below g w1 wb) := HBa.out.trans (hbb.mono (Nat.le_of_lt hga))
        have hgb : g < wb.heap.size := row_lt hrb
        have hsA := run_storeAt_new (P := Tryd.prog) wb 49 (bt (fun _ => false)) (bt ff) (by rw [bt_size]; exact hzs9) (by rw [bt_size, bt_size]) (bt_one ff)
        obtain ⟨w2, hr3, hrow, hon3⟩ := store_in ff ((heap_alloc_old wb (.cells (bt ff) 49) hgb).trans hrb)
        have hrA := store_at3 hr3
        have hlA := load_bt (heap_alloc_last wb (.cells (bt ff) 49))
        have hon : Below g w1 w2 := (HBb.out.alloc (Nat.le_of_lt hgb) _).trans (hon3.below (Nat.le_refl _))
        clear hrb hon3 hbb hx2 hr3
        go_upto_region 22 with (first
          | (refine wpList_store_at rfl 49 _ _ (.pointer (some ⟨wb.heap.size, 0, none⟩)) (.agg (bt ff)) rfl rfl rfl hsA ?_)
          | (refine wpList_load_at rfl 49 _ (.pointer (some ⟨wb.heap.size, 0, none⟩)) (.agg (bt ff)) rfl rfl hlA ?_)
          | (refine wpList_store_at rfl 49 _ _ (.pointer (some ⟨g, 3, none⟩)) (.agg (bt ff)) rfl rfl rfl hrA ?_))
        go_upto_region 27 with fail
        have HG2 : Hid (w2.heap[g]? = some (.cells (sc false true 0 ff) 51)) := hrow
        have HW2 : Hid (w2.ownsRow w.heap.size 51 259 (.slice pv acc.length cv) acc.length (rcells acc)) := (HK.out w2 hon).1
        have HB2 : Hid (Below w.heap.size w w2) := (HK.out w2 hon).2
        have hz2 : w.heap.size ≤ w2.heap.size := HB2.out.size
        clear hrow hon
        go_wp2_with (refine wpList_load_at rfl 51 _ (.pointer (some ⟨g, 0, none⟩)) (.agg (sc false true 0 ff)) rfl rfl (load_sc HG2.out) ?_)
        refine wp_buildSlice 46 51 1 _ rfl (sc false true 0 ff) ie _ Tryd.underlying46 hie hz0 (by rw [hz1]; decide) (by rw [hz1]; decide) ?_ ?_
        · simp only [List.map_toArray, List.map_cons, List.map_nil]
          exact fill_one hz1 _ false true 0 ff
        go_wp2_with (at_builtin; refine wpList_append_own _ rfl _ _ 46 rfl w.heap.size 51 ie _ 259 259 Tryd.underlying46 hie hz0 hz1 hz2b (sc_size _ _ _ _) (by decide) _ _ _ rfl (World.ownsRow.alloc HW2.out _) ⟨w2.heap.size, 0, none⟩ 1 1 (sc false true 0 ff).toList rfl ?ts0 ?ts1 ?ts2 ?ts3 ?ts4 ?ts5 ?_)
        case ts0 => rw [Array.length_toList, sc_size]
        case ts1 =>
          intro j u hj
          have hadd : (⟨w2.heap.size, 0, none⟩ : Addr).add j = ⟨w2.heap.size, j, none⟩ := by unfold Addr.add; split <;> simp_all
          rw [hadd, cell_of_row _ _ _ _ _ _ (heap_alloc_last w2 _)]
          simpa using hj
        case ts2 => intro u hu; exact (Array.all_eq_true_iff_forall_mem.1 (sc_one false true 0 ff)) u (by simpa using hu)
        case ts3 => unfold maxLen; omega
        case ts4 => omega
        case ts5 => first | omega | (simp; omega)
        · intro v' w4 hown' hgrow _
          have HW4 : Hid (w4.ownsRow w.heap.size 51 259 v' (acc ++ [st]).length (rcells (acc ++ [st]))) := by
            show w4.ownsRow _ _ _ _ _ _
            rw [rcells_snoc, List.length_append, HSC.out]
            exact hown'
          have HB4 : Hid (Below w.heap.size w w4) := (HB2.out.alloc hz2 _).grown hgrow (by simp; omega) (fun k hk => (World.ownsRow.lt HW2.out k hk).1)
          clear hown' hgrow
          go_wp2
          go_roundw
          case rel => exact ⟨x, acc ++ [st], by go_num, HI1.out, HW4.out, by rw [List.append_assoc]; show acc ++ (st :: parse (s.data.toList.drop (x))) = _; rw [HPC.out]; exact HPA.out, by simp; have := HI2.out; omega, HB4.out⟩
          case measure => simp [intOf]; have := HI2.out; have := HI1.out; omega
      have q1 : ((d : Int) == 42) = false := by simp; omega
      have q2 : ((d : Int) == 63) = false := by simp; omega
      have q3 : ((d : Int) == 91) = false := by simp; omega
      by_cases h92 : d = 92 ∧ i + 1 < s.size
      · obtain ⟨h92, h1⟩ := h92
        obtain ⟨f1, f2⟩ := d_fe s i h1 (by omega)
        have hb := d_byte s i hlt (by omega) (by omega) (by omega)
        rw [f1, f2] at hb
        obtain ⟨c, hc⟩ : ∃ c, s[i + 1] = c := ⟨_, rfl⟩
        rw [hc] at hb
        obtain ⟨x, ex⟩ : ∃ x, c.toNat = x := ⟨_, rfl⟩
        have hx8 := c.toNat_lt
        rw [ex] at hx8
        have HBY : Hid _ := hb
        clear f1 f2 hb
        have q4 : ((d : Int) == 92) = true := by rw [h92]; rfl
        have h1z : (i : Int) + 1 < (s.size : Int) := by omega
        clear h92
        obtain ⟨st, hst⟩ : ∃ st, oneSt c = st := ⟨_, rfl⟩
        have HSC : Hid (scS st = sc false false c (fun b => b == c)) := by show _ = _; rw [← hst]; rfl
        have HPC : Hid (st :: parse (s.data.toList.drop (i + 2)) = parse (s.data.toList.drop i)) := by show _ = _; rw [← hst]; exact HBY.out
        have HI1 : Hid (i + 2 ≤ s.size) := h1
        have HI2 : Hid (i + 1 ≤ i + 2) := (by omega : i + 1 ≤ i + 2)
        clear hst
        have hrow : ((w1.setCell ⟨g, 2, none⟩ (.int .u8 (x : Int))).setCell ⟨g, 3 + x, none⟩ (.bool true)).heap[g]? = some (.cells (sc false false c (fun b => b == c)) 51) := by
          have h2 : (w1.setCell ⟨g, 2, none⟩ (.int .u8 (x : Int))).heap[g]? = some (.cells (sc false false c (fun _ => false)) 51) := by rw [heap_setCell_same _ _ _ _ _ _ HR1.out, ← ex, sc_set2]
          rw [heap_setCell_same _ _ _ _ _ _ h2, sc_set3 _ _ _ _ _ hx8]
          have hf : orF (fun _ => false) (fun b => b == UInt8.ofNat x) = (fun b => b == c) := by funext b; unfold orF; rw [← ex, of_at]; simp
          rw [hf]
        have hon : Below g w1 ((w1.setCell ⟨g, 2, none⟩ (.int .u8 (x : Int))).setCell ⟨g, 3 + x, none⟩ (.bool true)) := (((Only.refl w1 g).set _ _).set _ _).below (Nat.le_refl _)
        have c3 : w1.cell? ⟨g, 3 + x, none⟩ = some (.bool false) := by rw [cell_of_row _ _ _ _ _ _ HR1.out, sc_3 _ _ _ _ _ hx8]
        go_upto_region 27 with fail
        generalize (w1.setCell ⟨g, 2, none⟩ (.int .u8 (x : Int))).setCell ⟨g, 3 + x, none⟩ (.bool true) = w2 at hrow hon ⊢
        have HG2 : Hid (w2.heap[g]? = some (.cells (sc false false c (fun b => b == c)) 51)) := hrow
        have HW2 : Hid (w2.ownsRow w.heap.size 51 259 (.slice pv acc.length cv) acc.length (rcells acc)) := (HK.out w2 hon).1
        have HB2 : Hid (Below w.heap.size w w2) := (HK.out w2 hon).2
        have hz2 : w.heap.size ≤ w2.heap.size := HB2.out.size
        clear hrow hon
        go_wp2_with (refine wpList_load_at rfl 51 _ (.pointer (some ⟨g, 0, none⟩)) (.agg (sc false false c (fun b => b == c))) rfl rfl (load_sc HG2.out) ?_)
        refine wp_buildSlice 46 51 1 _ rfl (sc false false c (fun b => b == c)) ie _ Tryd.underlying46 hie hz0 (by rw [hz1]; decide) (by rw [hz1]; decide) ?_ ?_
        · simp only [List.map_toArray, List.map_cons, List.map_nil]
          exact fill_one hz1 _ false false c (fun b => b == c)
        go_wp2_with (at_builtin; refine wpList_append_own _ rfl _ _ 46 rfl w.heap.size 51 ie _ 259 259 Tryd.underlying46 hie hz0 hz1 hz2b (sc_size _ _ _ _) (by decide) _ _ _ rfl (World.ownsRow.alloc HW2.out _) ⟨w2.heap.size, 0, none⟩ 1 1 (sc false false c (fun b => b == c)).toList rfl ?te0 ?te1 ?te2 ?te3 ?te4 ?te5 ?_)
        case te0 => rw [Array.length_toList, sc_size]
        case te1 =>
          intro j u hj
          have hadd : (⟨w2.heap.size, 0, none⟩ : Addr).add j = ⟨w2.heap.size, j, none⟩ := by unfold Addr.add; split <;> simp_all
          rw [hadd, cell_of_row _ _ _ _ _ _ (heap_alloc_last w2 _)]
          simpa using hj
        case te2 => intro u hu; exact (Array.all_eq_true_iff_forall_mem.1 (sc_one false false c (fun b => b == c))) u (by simpa using hu)
        case te3 => unfold maxLen; omega
        case te4 => omega
        case te5 => first | omega | (simp; omega)
        · intro v' w4 hown' hgrow _
          have HW4 : Hid (w4.ownsRow w.heap.size 51 259 v' (acc ++ [st]).length (rcells (acc ++ [st]))) := by
            show w4.ownsRow _ _ _ _ _ _
            rw [rcells_snoc, List.length_append, HSC.out]
            exact hown'
          have HB4 : Hid (Below w.heap.size w w4) := (HB2.out.alloc hz2 _).grown hgrow (by simp; omega) (fun k hk => (World.ownsRow.lt HW2.out k hk).1)
          clear hown' hgrow
          go_wp2
          go_roundw
          case rel => exact ⟨i + 2, acc ++ [st], by go_num, HI1.out, HW4.out, by rw [List.append_assoc]; show acc ++ (st :: parse (s.data.toList.drop (i + 2))) = _; rw [HPC.out]; exact HPA.out, by simp; have := HI2.out; omega, HB4.out⟩
          case measure => simp [intOf]; have := HI2.out; have := HI1.out; omega
      obtain ⟨f1, f2⟩ := d_fo s i hlt (by rw [ed]; exact h92)
      have hb := d_byte s i hlt (by omega) (by omega) (by omega)
      rw [f1, f2] at hb
      obtain ⟨c, hc⟩ : ∃ c, s[i] = c := ⟨_, rfl⟩
      rw [hc] at hb ed
      have ex : c.toNat = d := ed
      have HBY : Hid _ := hb
      clear f1 f2 hb
      by_cases h9 : d = 92
      · have h1 : ¬ ((i : Int) + 1 < (s.size : Int)) := by
          have : ¬ (i + 1 < s.size) := fun x => h92 ⟨h9, x⟩
          omega
        have q4 : ((d : Int) == 92) = true := by rw [h9]; rfl
        have h1d : decide ((i : Int) + 1 < (s.size : Int)) = false := decide_eq_false h1
        clear h92 h9
        obtain ⟨st, hst⟩ : ∃ st, oneSt c = st := ⟨_, rfl⟩
        have HSC : Hid (scS st = sc false false c (fun b => b == c)) := by show _ = _; rw [← hst]; rfl
        have HPC : Hid (st :: parse (s.data.toList.drop (i + 1)) = parse (s.data.toList.drop i)) := by show _ = _; rw [← hst]; exact HBY.out
        have HI1 : Hid (i + 1 ≤ s.size) := hlt
        have HI2 : Hid (i + 1 ≤ i + 1) := Nat.le_refl _
        clear hst
        have hrow : ((w1.setCell ⟨g, 2, none⟩ (.int .u8 (d : Int))).setCell ⟨g, 3 + d, none⟩ (.bool true)).heap[g]? = some (.cells (sc false false c (fun b => b == c)) 51) := by
          have h2 : (w1.setCell ⟨g, 2, none⟩ (.int .u8 (d : Int))).heap[g]? = some (.cells (sc false false c (fun _ => false)) 51) := by rw [heap_setCell_same _ _ _ _ _ _ HR1.out, ← ex, sc_set2]
          rw [heap_setCell_same _ _ _ _ _ _ h2, sc_set3 _ _ _ _ _ hd8]
          have hf : orF (fun _ => false) (fun b => b == UInt8.ofNat d) = (fun b => b == c) := by funext b; unfold orF; rw [← ex, of_at]; simp
          rw [hf]
        have hon : Below g w1 ((w1.setCell ⟨g, 2, none⟩ (.int .u8 (d : Int))).setCell ⟨g, 3 + d, none⟩ (.bool true)) := (((Only.refl w1 g).set _ _).set _ _).below (Nat.le_refl _)
        have c3 : w1.cell? ⟨g, 3 + d, none⟩ = some (.bool false) := by rw [cell_of_row _ _ _ _ _ _ HR1.out, sc_3 _ _ _ _ _ hd8]
        go_upto_region 27 with fail
        clear h1 h1d
        generalize (w1.setCell ⟨g, 2, none⟩ (.int .u8 (d : Int))).setCell ⟨g, 3 + d, none⟩ (.bool true) = w2 at hrow hon ⊢
        have HG2 : Hid (w2.heap[g]? = some (.cells (sc false false c (fun b => b == c)) 51)) := hrow
        have HW2 : Hid (w2.ownsRow w.heap.size 51 259 (.slice pv acc.length cv) acc.length (rcells acc)) := (HK.out w2 hon).1
        have HB2 : Hid (Below w.heap.size w w2) := (HK.out w2 hon).2
        have hz2 : w.heap.size ≤ w2.heap.size := HB2.out.size
        clear hrow hon
        go_wp2_with (refine wpList_load_at rfl 51 _ (.pointer (some ⟨g, 0, none⟩)) (.agg (sc false false c (fun b => b == c))) rfl rfl (load_sc HG2.out) ?_)
        refine wp_buildSlice 46 51 1 _ rfl (sc false false c (fun b => b == c)) ie _ Tryd.underlying46 hie hz0 (by rw [hz1]; decide) (by rw [hz1]; decide) ?_ ?_
        · simp only [List.map_toArray, List.map_cons, List.map_nil]
          exact fill_one hz1 _ false false c (fun b => b == c)
        go_wp2_with (at_builtin; refine wpList_append_own _ rfl _ _ 46 rfl w.heap.size 51 ie _ 259 259 Tryd.underlying46 hie hz0 hz1 hz2b (sc_size _ _ _ _) (by decide) _ _ _ rfl (World.ownsRow.alloc HW2.out _) ⟨w2.heap.size, 0, none⟩ 1 1 (sc false false c (fun b => b == c)).toList rfl ?tf0 ?tf1 ?tf2 ?tf3 ?tf4 ?tf5 ?_)
        case tf0 => rw [Array.length_toList, sc_size]
        case tf1 =>
          intro j u hj
          have hadd : (⟨w2.heap.size, 0, none⟩ : Addr).add j = ⟨w2.heap.size, j, none⟩ := by unfold Addr.add; split <;> simp_all
          rw [hadd, cell_of_row _ _ _ _ _ _ (heap_alloc_last w2 _)]
          simpa using hj
        case tf2 => intro u hu; exact (Array.all_eq_true_iff_forall_mem.1 (sc_one false false c (fun b => b == c))) u (by simpa using hu)
        case tf3 => unfold maxLen; omega
        case tf4 => omega
        case tf5 => first | omega | (simp; omega)
        · intro v' w4 hown' hgrow _
          have HW4 : Hid (w4.ownsRow w.heap.size 51 259 v' (acc ++ [st]).length (rcells (acc ++ [st]))) := by
            show w4.ownsRow _ _ _ _ _ _
            rw [rcells_snoc, List.length_append, HSC.out]
            exact hown'
          have HB4 : Hid (Below w.heap.size w w4) := (HB2.out.alloc hz2 _).grown hgrow (by simp; omega) (fun k hk => (World.ownsRow.lt HW2.out k hk).1)
          clear hown' hgrow
          go_wp2
          go_roundw
          case rel => exact ⟨i + 1, acc ++ [st], by go_num, HI1.out, HW4.out, by rw [List.append_assoc]; show acc ++ (st :: parse (s.data.toList.drop (i + 1))) = _; rw [HPC.out]; exact HPA.out, by simp; have := HI2.out; omega, HB4.out⟩
          case measure => simp [intOf]; have := HI2.out; have := HI1.out; omega
      · have q4 : ((d : Int) == 92) = false := by simp; omega
        clear h92
        obtain ⟨st, hst⟩ : ∃ st, oneSt c = st := ⟨_, rfl⟩
        have HSC : Hid (scS st = sc false false c (fun b => b == c)) := by show _ = _; rw [← hst]; rfl
        have HPC : Hid (st :: parse (s.data.toList.drop (i + 1)) = parse (s.data.toList.drop i)) := by show _ = _; rw [← hst]; exact HBY.out
        have HI1 : Hid (i + 1 ≤ s.size) := hlt
        have HI2 : Hid (i + 1 ≤ i + 1) := Nat.le_refl _
        clear hst
        have hrow : ((w1.setCell ⟨g, 2, none⟩ (.int .u8 (d : Int))).setCell ⟨g, 3 + d, none⟩ (.bool true)).heap[g]? = some (.cells (sc false false c (fun b => b == c)) 51) := by
          have h2 : (w1.setCell ⟨g, 2, none⟩ (.int .u8 (d : Int))).heap[g]? = some (.cells (sc false false c (fun _ => false)) 51) := by rw [heap_setCell_same _ _ _ _ _ _ HR1.out, ← ex, sc_set2]
          rw [heap_setCell_same _ _ _ _ _ _ h2, sc_set3 _ _ _ _ _ hd8]
          have hf : orF (fun _ => false) (fun b => b == UInt8.ofNat d) = (fun b => b == c) := by funext b; unfold orF; rw [← ex, of_at]; simp
          rw [hf]
        have hon : Below g w1 ((w1.setCell ⟨g, 2, none⟩ (.int .u8 (d : Int))).setCell ⟨g, 3 + d, none⟩ (.bool true)) := (((Only.refl w1 g).set _ _).set _ _).below (Nat.le_refl _)
        have c3 : w1.cell? ⟨g, 3 + d, none⟩ = some (.bool false) := by rw [cell_of_row _ _ _ _ _ _ HR1.out, sc_3 _ _ _ _ _ hd8]
        go_upto_region 27 with fail
        generalize (w1.setCell ⟨g, 2, none⟩ (.int .u8 (d : Int))).setCell ⟨g, 3 + d, none⟩ (.bool true) = w2 at hrow hon ⊢
        have HG2 : Hid (w2.heap[g]? = some (.cells (sc false false c (fun b => b == c)) 51)) := hrow
        have HW2 : Hid (w2.ownsRow w.heap.size 51 259 (.slice pv acc.length cv) acc.length (rcells acc)) := (HK.out w2 hon).1
        have HB2 : Hid (Below w.heap.size w w2) := (HK.out w2 hon).2
        have hz2 : w.heap.size ≤ w2.heap.size := HB2.out.size
        clear hrow hon
        go_wp2_with (refine wpList_load_at rfl 51 _ (.pointer (some ⟨g, 0, none⟩)) (.agg (sc false false c (fun b => b == c))) rfl rfl (load_sc HG2.out) ?_)
        refine wp_buildSlice 46 51 1 _ rfl (sc false false c (fun b => b == c)) ie _ Tryd.underlying46 hie hz0 (by rw [hz1]; decide) (by rw [hz1]; decide) ?_ ?_
        · simp only [List.map_toArray, List.map_cons, List.map_nil]
          exact fill_one hz1 _ false false c (fun b => b == c)
        go_wp2_with (at_builtin; refine wpList_append_own _ rfl _ _ 46 rfl w.heap.size 51 ie _ 259 259 Tryd.underlying46 hie hz0 hz1 hz2b (sc_size _ _ _ _) (by decide) _ _ _ rfl (World.ownsRow.alloc HW2.out _) ⟨w2.heap.size, 0, none⟩ 1 1 (sc false false c (fun b => b == c)).toList rfl ?tg0 ?tg1 ?tg2 ?tg3 ?tg4 ?tg5 ?_)
        case tg0 => rw [Array.length_toList, sc_size]
        case tg1 =>
          intro j u hj
          have hadd : (⟨w2.heap.size, 0, none⟩ : Addr).add j = ⟨w2.heap.size, j, none⟩ := by unfold Addr.add; split <;> simp_all
          rw [hadd, cell_of_row _ _ _ _ _ _ (heap_alloc_last w2 _)]
          simpa using hj
        case tg2 => intro u hu; exact (Array.all_eq_true_iff_forall_mem.1 (sc_one false false c (fun b => b == c))) u (by simpa using hu)
        case tg3 => unfold maxLen; omega
        case tg4 => omega
        case tg5 => first | omega | (simp; omega)
        · intro v' w4 hown' hgrow _
          have HW4 : Hid (w4.ownsRow w.heap.size 51 259 v' (acc ++ [st]).length (rcells (acc ++ [st]))) := by
            show w4.ownsRow _ _ _ _ _ _
            rw [rcells_snoc, List.length_append, HSC.out]
            exact hown'
          have HB4 : Hid (Below w.heap.size w w4) := (HB2.out.alloc hz2 _).grown hgrow (by simp; omega) (fun k hk => (World.ownsRow.lt HW2.out k hk).1)
          clear hown' hgrow
          go_wp2
          go_roundw
          case rel => exact ⟨i + 1, acc ++ [st], by go_num, HI1.out, HW4.out, by rw [List.append_assoc]; show acc ++ (st :: parse (s.data.toList.drop (i + 1))) = _; rw [HPC.out]; exact HPA.out, by simp; have := HI2.out; omega, HB4.out⟩
          case measure => simp [intOf]; have := HI2.out; have := HI1.out; omega
    · have hnl : ¬ ((i : Int) < (s.size : Int)) := by omega
      have HPE : Hid (acc = parse s.data.toList) := by
        show _ = _
        have := HPA.out
        rw [List.drop_eq_nil_of_le (by rw [list_len]; omega), parse_nil, List.append_nil] at this
        exact this
      go_wp2
      go_ret
      exact ⟨_, rfl, by rw [← HPE.out]; exact HW.out, HB.out⟩
end Go.Proofs.YtpckadpnedfkkaaDoor
