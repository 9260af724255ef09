import Derived.Test.YtnnpnccnpojfmaaTbG
import Derived.Test.YtnnpnccnpojfmaaTbT
import Derived.Deep.OwnRows
namespace Go.Proofs.Ytnnpnccnpojfmaa
open Go.RowKit
set_option linter.unusedVariables false
set_option linter.unusedSimpArgs false
def TB.names : List ByteArray := TB.tab.map (fun r => r.nm)
theorem TB.names_len : TB.names.length = 161 := by unfold TB.names; rw [List.length_map, TB.tab_len]
theorem names_at (i : Nat) (r : Rw) (h : TB.tab[i]? = some r) : (sv TB.names)[i]? = some (.string r.nm) := by
  unfold sv TB.names
  rw [List.getElem?_map, List.getElem?_map, h]; rfl
theorem names_take (i : Nat) (r : Rw) (h : TB.tab[i]? = some r) : TB.names.take (i + 1) = TB.names.take i ++ [r.nm] := by
  rw [List.take_add_one]
  unfold TB.names
  rw [List.getElem?_map, h]; rfl
set_option maxHeartbeats 2000000 in
set_option maxRecDepth 20000 in
theorem all_any (w : World) : Calls Try.prog 12 #[] w fun e w' => e = .returned (.slice (some ⟨w.heap.size, 0, none⟩) 161 161) ∧ w'.heap[w.heap.size]? = some (.cells (sv TB.names).toArray 9) ∧ Below w.heap.size w w' := by
  have hmk : ∀ w : World, (Instr.makeSlice 22 (.int .i64 161) (.int .i64 161)).run Try.prog w = .ok (.slice (some ⟨w.heap.size, 0, none⟩) 161 161) (w.alloc (.cells (madeCells #[.string ⟨#[]⟩] 161) 9)) := fun w => run_make_row' (P := Try.prog) 22 9 (.string ⟨#[]⟩) 16 Try.underlying22 info9 rfl .i64 .i64 161 (by omega) (by omega) w
  obtain ⟨M, hM⟩ : ∃ M, madeCells #[.string ⟨#[]⟩] 161 = M := ⟨_, rfl⟩
  have HM : Hid (M.toList.length = 161) := by show _ = _; rw [← hM]; decide +kernel
  rw [hM] at hmk
  clear hM
  have HNM : Hid (∀ (r : Rw), r ∈ TB.tab → ∀ w, Calls Try.prog 27 #[.string (strB (TB.txt r))] w fun e w' => e = .returned (.string r.nm) ∧ ∃ k, w' = w.drewN k) := fun r h w => name_any r (TB.wf_at h) w
  go_enter Try.func12, Try.ntmps12
  go_wp2
  clear hmk
  go_loopw [2, 4] (fun _ ci wr => ∃ i : Nat, ci = .int .i64 (i : Int) ∧ i ≤ 161 ∧ Below w.heap.size w wr ∧ ∃ l : List Value, wr.heap[w.heap.size]? = some (.cells l.toArray 9) ∧ l.length = 161 ∧ ∀ j, j < i → l[j]? = (sv TB.names)[j]?) (fun _ ci _ => 161 - (intOf ci).toNat)
  case atStart => exact ⟨0, rfl, by omega, (Below.refl _ _).alloc (Nat.le_refl _) _, M.toList, by rw [one_alloc], HM.out, fun j h => absurd h (by omega)⟩
  case round =>
    obtain ⟨i, rfl, hi, hbel, l, hrow, hlen, hall⟩ := hrel
    have HB : Hid (Below w.heap.size w wr) := hbel
    have HR : Hid (wr.heap[w.heap.size]? = some (.cells l.toArray 9)) := hrow
    have HL : Hid (l.length = 161) := hlen
    have HALL : Hid _ := hall
    clear hbel hrow hlen hall
    by_cases hlt : i < 161
    · obtain ⟨r, hr⟩ : ∃ r, TB.tab[i]? = some r := ⟨_, List.getElem?_eq_getElem (by rw [TB.tab_len]; exact hlt)⟩
      have HRA : Hid _ := rowAt_r i r hr
      have HN : Hid _ := HNM.out r (List.mem_of_getElem? hr)
      have HAT : Hid _ := names_at i r hr
      clear hr
      obtain ⟨S, hS⟩ : ∃ S, strB (TB.txt r) = S := ⟨_, rfl⟩
      rw [hS] at HRA HN
      clear hS
      have hz0 : (0 : Int) ≤ (i : Int) := by omega
      have hz1 : (i : Int) < 161 := by omega
      go_wp2_with fail
      refine (show Calls _ _ _ _ _ from HRA.out _).mono ?_
      rintro e wx ⟨rfl, rfl⟩
      go_wp2_with fail
      refine (show Calls _ _ _ _ _ from HN.out _).mono ?_
      rintro e w2 ⟨rfl, k, hw2⟩
      have HR2 : Hid (w2.heap[w.heap.size]? = some (.cells l.toArray 9)) := by rw [hw2]; exact HR.out
      have HB2 : Hid (Below w.heap.size w w2) := by rw [hw2]; exact below_dn HB.out k
      clear hw2
      obtain ⟨y, hy⟩ : ∃ y, l[i]? = some y := ⟨_, List.getElem?_eq_getElem (by rw [HL.out]; exact hlt)⟩
      have hcell : w2.cell? ⟨w.heap.size, i, none⟩ = some y := by rw [cell_of_row _ _ _ _ _ _ HR2.out, List.getElem?_toArray]; exact hy
      have hfz : w2.frozen? ⟨w.heap.size, i, none⟩ = false := frozen_of_row _ _ _ _ _ HR2.out
      have HR3 : Hid ((w2.setCell ⟨w.heap.size, i, none⟩ (.string r.nm)).heap[w.heap.size]? = some (.cells (l.set i (.string r.nm)).toArray 9)) := set_row HR2.out i _
      have HB3 : Hid (Below w.heap.size w (w2.setCell ⟨w.heap.size, i, none⟩ (.string r.nm))) := HB2.out.trans (((Only.refl w2 w.heap.size).set i (.string r.nm)).below (Nat.le_refl _))
      clear hy
      go_wp2
      go_roundw
      case rel =>
        refine ⟨i + 1, by go_num, by omega, HB3.out, l.set i (.string r.nm), HR3.out, by rw [List.length_set]; exact HL.out, fun j hj => ?_⟩
        rw [List.getElem?_set]
        by_cases h2 : i = j
        · subst h2
          rw [if_pos rfl, if_pos (by rw [HL.out]; exact hlt), HAT.out]
        · rw [if_neg h2]; exact HALL.out j (by omega)
      case measure => simp [intOf]; omega
    · have hie : i = 161 := by omega
      have HE : Hid (l = sv TB.names) := by
        show _ = _
        refine List.ext_getElem? fun j => ?_
        by_cases hj : j < 161
        · exact HALL.out j (by omega)
        · rw [List.getElem?_eq_none (by rw [HL.out]; omega), List.getElem?_eq_none (by rw [sv_len, TB.names_len]; omega)]
      have hz1 : ¬ (i : Int) < 161 := by omega
      clear hie
      go_wp2
      go_returns
      exact ⟨rfl, by rw [← HE.out]; exact HR.out, HB.out⟩
set_option maxHeartbeats 2000000 in
set_option maxRecDepth 20000 in
theorem rall_any (w : World) : Calls Try.prog 16 #[] w fun e w' => (∃ v, e = .returned v ∧ SRow w' v TB.names) ∧ Below w.heap.size w w' := by
  obtain ⟨i9, hi9, hy9, hy10, hy11⟩ := info_parts info9
  have HRW : Hid _ := rows_any
  go_enter Try.func16, Try.ntmps16
  go_wp2_with fail
  refine (show Calls _ _ _ _ _ from HRW.out _).mono ?_
  rintro e W1 ⟨rfl, hw1⟩
  have HT1 : Hid (TabAt W1 w.heap.size) := by rw [hw1]; exact one_alloc w _
  have HB1 : Hid (Below w.heap.size w W1) := by rw [hw1]; exact (Below.refl _ _).alloc (Nat.le_refl _) _
  clear hw1 HRW
  obtain ⟨G, hG⟩ : ∃ G, w.heap.size = G := ⟨_, rfl⟩
  rw [hG] at HT1 ⊢
  have HGE : Hid (w.heap.size = G) := hG
  clear hG
  go_wp2
  go_loopw [1, 3] (fun v ci wr => ∃ i : Nat, ci = .int .i64 (i : Int) ∧ (i ≤ 161 ∧ Below W1.heap.size W1 wr) ∧ wr.ownsRow W1.heap.size 9 1 v i (sv (TB.names.take i))) (fun _ ci _ => 161 - (intOf ci).toNat)
  case atStart => exact ⟨0, rfl, ⟨by omega, Below.refl _ _⟩, World.ownsRow_nil _ _ _ _⟩
  case round =>
    obtain ⟨i, rfl, ⟨hi, hbel⟩, hown⟩ := hrel
    have HB : Hid (Below W1.heap.size W1 wr) := hbel
    have HT : Hid (TabAt wr G) := keep_row HT1.out hbel
    obtain ⟨pv, cv, ev⟩ := own_form hown
    subst ev
    obtain ⟨acc, hacc⟩ : ∃ acc, TB.names.take i = acc := ⟨_, rfl⟩
    have HACC : Hid (TB.names.take i = acc) := hacc
    rw [hacc] at hown
    have HOW : Hid (wr.ownsRow W1.heap.size 9 1 (.slice pv i cv) i (sv acc)) := hown
    clear hbel hown hacc
    by_cases hlt : i < 161
    · obtain ⟨r, hr⟩ : ∃ r, TB.tab[i]? = some r := ⟨_, List.getElem?_eq_getElem (by rw [TB.tab_len]; exact hlt)⟩
      have c0 : wr.cell? ⟨G, i * 8, none⟩ = some (.string r.nm) := tab_cell HT.out i r hr 0 (by omega)
      have HTK : Hid (TB.names.take (i + 1) = acc ++ [r.nm]) := by show _ = _; rw [names_take i r hr, HACC.out]
      clear hr
      have hz0 : (0 : Int) ≤ (i : Int) := by omega
      have hz1 : (i : Int) < 161 := by omega
      have HO3 : Hid ((wr.alloc (.cells #[.string r.nm] 9)).ownsRow W1.heap.size 9 1 (.slice pv i cv) i (sv acc)) := own_on HOW.out ((Below.refl _ _).alloc (Nat.le_refl _) _)
      have HNC : Hid (∀ a u, [Value.string r.nm][a]? = some u → (wr.alloc (.cells #[.string r.nm] 9)).cell? ((⟨wr.heap.size, 0, none⟩ : Addr).add a) = some u) := fun a u ha => by
        match a, ha with
        | 0, ha => simp at ha; subst ha; rw [Addr.add_lit]; exact (row1 (one_alloc wr (.cells #[.string r.nm] 9))).1
      go_upto_region 6 with fail
      go_wp2_with (at_builtin; go_must (refine wpList_append_own _ rfl _ _ 22 rfl W1.heap.size 9 i9 (.string ⟨#[]⟩) 1 16 Try.underlying22 hi9 hy9 hy10 hy11 rfl (by decide) (.slice pv i cv) i (sv acc) rfl HO3.out ⟨wr.heap.size, 0, none⟩ 1 1 [.string r.nm] rfl rfl HNC.out ?td1 ?td2 ?td3 ?td4 ?_))
      case td1 => first | (intro u hu; simp at hu; subst hu; rfl) | rfl
      case td2 => unfold maxLen; omega
      case td3 => omega
      case td4 => have := HB.out.size; simp; omega
      intro v9 w9 ho9 hg9 hn9
      obtain ⟨P9, k9, hf9⟩ := own_form ho9
      subst hf9
      have HO9 : Hid (w9.ownsRow W1.heap.size 9 1 (.slice P9 (i + 1) k9) (i + 1) (sv (TB.names.take (i + 1)))) := by show World.ownsRow _ _ _ _ _ _ _; rw [HTK.out, sv_snoc]; exact ho9
      have HB9 : Hid (Below W1.heap.size W1 w9) := (HB.out.alloc HB.out.size _).grown hg9 (by have := HB.out.size; simp; omega) (fun b hb => own_block HO3.out b hb)
      clear ho9 hg9 hn9 c0
      go_wp2
      go_roundw
      case rel => exact ⟨i + 1, by first | rfl | go_num, ⟨by omega, HB9.out⟩, HO9.out⟩
      case measure => simp [intOf]; omega
    · have hie : i = 161 := by omega
      have HE : Hid (acc = TB.names ∧ TB.names.length = i) := ⟨by rw [← HACC.out, List.take_of_length_le (by rw [TB.names_len]; omega)], by rw [TB.names_len, hie]⟩
      have hz1 : ¬ (i : Int) < 161 := by omega
      clear hie
      go_wp2
      go_returns
      refine ⟨⟨_, rfl, ?_⟩, bel_to HB1.out HB.out (Nat.le_refl _)⟩
      rw [← HE.out.1]
      exact own_srow HOW.out (by rw [HE.out.1]; exact HE.out.2)
end Go.Proofs.Ytnnpnccnpojfmaa
