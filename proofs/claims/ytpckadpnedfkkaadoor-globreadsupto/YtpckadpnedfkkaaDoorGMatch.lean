import Derived.Test.YtpckadpnedfkkaaDoorGWalkW
import Derived.Test.YtpckadpnedfkkaaDoorGFold
namespace Go.Proofs.YtpckadpnedfkkaaDoor
open Go.RowKit Gb
set_option linter.unusedVariables false
theorem prog_full (l : List UInt8) (k : Nat) (b : UInt8) (h : an (prog l) k = true) : fn (prog l) k b = true := by
  have hk := an_lt h
  have hm : at' (prog l) k ∈ prog l := by
    unfold at'
    rw [List.getD_eq_getElem?_getD, List.getElem?_eq_getElem hk]; exact List.getElem_mem hk
  have := prog_star l _ hm h
  unfold fn
  rw [this]; rfl
theorem walk_is (l t : List UInt8) : walkP (prog l) t (reachP (prog l) [] 0) = mt (parse l) t := by
  rw [walk_mt (prog_adj l) (prog_full l), prog_mt]
set_option maxHeartbeats 1000000 in
theorem match_no (p t : ByteArray) (hp : p.size ≤ 3000000) (ht : t.size ≤ 50000000) (w : World) :
    Calls Tryd.prog 6 #[.string p, .string t, .bool false] w fun e w' => e = .returned (.bool (match' p.data.toList t.data.toList false)) ∧ Below w.heap.size w w' := by
  have hl : (prog p.data.toList).length ≤ 3000000 := by have := prog_len p.data.toList; rw [list_len] at this; omega
  go_enter Tryd.func6, Tryd.ntmps6
  go_wp2_with fail
  refine (stepsOf_any p hp _).mono ?_
  rintro e w1 ⟨v1, rfl, hown1, hb1⟩
  obtain ⟨gs, cap, rfl, hS⟩ := steps_of hown1
  have HS : Hid (Steps w1 gs (prog p.data.toList)) := hS
  have HB1 : Hid (Below w.heap.size w w1) := hb1
  clear hown1 hS hb1
  go_wp2_with fail
  refine (Go.Proofs.YtpckadpnedfkkaaDoor.walk_any (prog p.data.toList) gs cap t _ HS.out hl ht).mono ?_
  rintro e w2 ⟨rfl, hb2⟩
  rw [walk_is]
  go_wp2
  go_ret
  exact ⟨rfl, HB1.out.trans (hb2.mono HB1.out.size)⟩
theorem foldB_list (s : ByteArray) : (foldB s).data.toList = fold s.data.toList := strB_list _
theorem foldB_size (s : ByteArray) : (foldB s).size = s.size := by rw [← list_len, foldB_list]; unfold fold; rw [List.length_map, list_len]
set_option maxHeartbeats 1000000 in
theorem match_yes (p t : ByteArray) (hp : p.size ≤ 3000000) (ht : t.size ≤ 50000000) (w : World) :
    Calls Tryd.prog 6 #[.string p, .string t, .bool true] w fun e w' => e = .returned (.bool (match' p.data.toList t.data.toList true)) ∧ Below w.heap.size w w' := by
  have hp2 : (foldB p).size ≤ 3000000 := by rw [foldB_size]; exact hp
  have ht2 : (foldB t).size ≤ 50000000 := by rw [foldB_size]; exact ht
  have hl : (prog (foldB p).data.toList).length ≤ 3000000 := by have := prog_len (foldB p).data.toList; rw [list_len] at this; omega
  have HM : Hid (match' p.data.toList t.data.toList true = mt (parse (foldB p).data.toList) (foldB t).data.toList) := by
    show _ = _
    rw [foldB_list, foldB_list]; rfl
  go_enter Tryd.func6, Tryd.ntmps6
  go_wp2_with fail
  refine (fold_any p (by omega) _).mono ?_
  rintro e wa ⟨rfl, hba⟩
  have HBa : Hid (Below w.heap.size w wa) := hba
  clear hba
  go_wp2_with fail
  refine (fold_any t (by omega) _).mono ?_
  rintro e wb ⟨rfl, hbb⟩
  have HBb : Hid (Below w.heap.size w wb) := HBa.out.trans (hbb.mono HBa.out.size)
  clear hbb
  go_wp2_with fail
  refine (stepsOf_any (foldB p) hp2 _).mono ?_
  rintro e w1 ⟨v1, rfl, hown1, hb1⟩
  obtain ⟨gs, cap, rfl, hS⟩ := steps_of hown1
  have HS : Hid (Steps w1 gs (prog (foldB p).data.toList)) := hS
  have HB1 : Hid (Below w.heap.size w w1) := HBb.out.trans (hb1.mono HBb.out.size)
  clear hown1 hS hb1
  go_wp2_with fail
  refine (Go.Proofs.YtpckadpnedfkkaaDoor.walk_any (prog (foldB p).data.toList) gs cap (foldB t) _ HS.out hl ht2).mono ?_
  rintro e w2 ⟨rfl, hb2⟩
  rw [walk_is]
  go_wp2
  go_ret
  exact ⟨by rw [HM.out]; rfl, HB1.out.trans (hb2.mono HB1.out.size)⟩
theorem match_any (p t : ByteArray) (f : Bool) (hp : p.size ≤ 3000000) (ht : t.size ≤ 50000000) (w : World) :
    Calls Tryd.prog 6 #[.string p, .string t, .bool f] w fun e w' => e = .returned (.bool (match' p.data.toList t.data.toList f)) ∧ Below w.heap.size w w' := by
  cases f
  · exact match_no p t hp ht w
  · exact match_yes p t hp ht w
end Go.Proofs.YtpckadpnedfkkaaDoor
