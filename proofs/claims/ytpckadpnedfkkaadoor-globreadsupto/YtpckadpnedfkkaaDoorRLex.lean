import Derived.Test.YtpckadpnedfkkaaDoorGLex
namespace Go.Proofs.YtpckadpnedfkkaaDoor
open Go.RowKit Vi Gb
set_option linter.unusedVariables false
theorem tail_str (s : ByteArray) (c : UInt8) (h : 0 < s.size) (e : s[0] = c) : strB (restL c s.data.toList) = s.extract 1 s.size := by
  apply WideShapes.bytes_inj
  rw [strB_list, ext_any, head_tl s h, e, restL_yes]
  simp [tl, List.take_of_length_le]
theorem first_is (s : ByteArray) (c : UInt8) (h : 0 < s.size) (n : Nat) (e : s[0].toNat = n) : isC c s.data.toList = decide (n = c.toNat) := by
  rw [head_tl s h, isC_cons, Bool.eq_iff_iff, beq_iff_eq, decide_eq_true_iff, ← e]
  exact ⟨fun x => by rw [x], fun x => UInt8.toNat_inj.1 x⟩
set_option maxHeartbeats 1000000 in
set_option maxRecDepth 20000 in
theorem rlex_any (s : ByteArray) (hs : s.size ≤ 140737488355328) (w : World) :
    Calls Tryd.prog 11 #[.string s] w fun e w' => e = .returned (lexT (lexOf s.data.toList)) ∧ Below w.heap.size w w' := by
  by_cases c1 : s.data.toList = [45]
  · have HR : Hid (lexOf s.data.toList = ([], -1, false, 0)) := by show _ = _; unfold lexOf; rw [if_pos c1]
    have t1 := lit_same c1
    clear c1
    go_enter Tryd.func11, Tryd.ntmps11
    go_wp2
    refine bodyPost_ret (v := .tuple #[.agg #[.string ⟨#[]⟩, .int .i64 (-1), .bool false], .int .i64 0]) (by simp [results, Tryd.results11, go_sem]) rfl ⟨?_, ?_⟩
    · rw [HR.out]; rfl
    · go_grown
  · have t1 := lit_other c1
    by_cases c2 : s.data.toList = [43]
    · have HR : Hid (lexOf s.data.toList = ([], 1, false, 0)) := by show _ = _; unfold lexOf; rw [if_neg c1, if_pos c2]
      have t2 := lit_same c2
      clear c1 c2
      go_enter Tryd.func11, Tryd.ntmps11
      go_wp2
      refine bodyPost_ret (v := .tuple #[.agg #[.string ⟨#[]⟩, .int .i64 1, .bool false], .int .i64 0]) (by simp [results, Tryd.results11, go_sem]) rfl ⟨?_, ?_⟩
      · rw [HR.out]; rfl
      · go_grown
    · have t2 := lit_other c2
      by_cases hz : s.size = 0
      · have hem : s.toList.isEmpty = true := str_empty hz
        have HR : Hid (lexOf s.data.toList = ([], 0, false, 40)) := by
          show _ = _; unfold lexOf
          have e : s.data.toList = [] := List.length_eq_zero_iff.1 (by rw [list_len]; exact hz)
          rw [if_neg c1, if_neg c2, e, isC_nil, isC_nil]; rfl
        clear c1 c2
        go_enter Tryd.func11, Tryd.ntmps11
        go_wp2
        refine bodyPost_ret (v := .tuple #[.agg #[.string ⟨#[]⟩, .int .i64 0, .bool false], .int .i64 40]) (by simp [results, Tryd.results11, go_sem]) rfl ⟨?_, ?_⟩
        · rw [HR.out]; rfl
        · go_grown
      · have hem : s.toList.isEmpty = false := str_full hz
        have hs0 : 0 < s.size := by omega
        obtain ⟨n, en⟩ : ∃ n, s[0].toNat = n := ⟨_, rfl⟩
        have f91 : isC 91 s.data.toList = decide (n = 91) := first_is s 91 hs0 n en
        have f40 : isC 40 s.data.toList = decide (n = 40) := first_is s 40 hs0 n en
        by_cases c3 : n = 91
        · have HR : Hid (lexOf s.data.toList = (restL 91 s.data.toList, 0, false, 0)) := by show _ = _; unfold lexOf; rw [if_neg c1, if_neg c2, f91, if_pos (by simpa using c3)]
          have HE : Hid (strB (restL 91 s.data.toList) = s.extract 1 s.size) := tail_str s 91 hs0 (UInt8.toNat_inj.1 (en.trans c3))
          subst c3
          clear c1 c2 f91 f40
          go_enter Tryd.func11, Tryd.ntmps11
          go_wp2
          refine bodyPost_ret (v := .tuple #[.agg #[.string (s.extract 1 s.size), .int .i64 0, .bool false], .int .i64 0]) (by simp [results, Tryd.results11, go_sem]) rfl ⟨?_, ?_⟩
          · rw [HR.out]; unfold lexT; rw [HE.out]
          · go_grown
        · have q1 : ((n : Int) == 91) = false := by simp; omega
          by_cases c4 : n = 40
          · have HR : Hid (lexOf s.data.toList = (restL 40 s.data.toList, 0, true, 0)) := by show _ = _; unfold lexOf; rw [if_neg c1, if_neg c2, f91, if_neg (by simpa using c3), f40, if_pos (by simpa using c4)]
            have HE : Hid (strB (restL 40 s.data.toList) = s.extract 1 s.size) := tail_str s 40 hs0 (UInt8.toNat_inj.1 (en.trans c4))
            subst c4
            clear c1 c2 c3 f91 f40
            go_enter Tryd.func11, Tryd.ntmps11
            go_wp2
            refine bodyPost_ret (v := .tuple #[.agg #[.string (s.extract 1 s.size), .int .i64 0, .bool true], .int .i64 0]) (by simp [results, Tryd.results11, go_sem]) rfl ⟨?_, ?_⟩
            · rw [HR.out]; unfold lexT; rw [HE.out]
            · go_grown
          · have HR : Hid (lexOf s.data.toList = ([], 0, false, 40)) := by show _ = _; unfold lexOf; rw [if_neg c1, if_neg c2, f91, if_neg (by simpa using c3), f40, if_neg (by simpa using c4)]
            have q2 : ((n : Int) == 40) = false := by simp; omega
            clear c1 c2 c3 c4 f91 f40
            go_enter Tryd.func11, Tryd.ntmps11
            go_wp2
            refine bodyPost_ret (v := .tuple #[.agg #[.string ⟨#[]⟩, .int .i64 0, .bool false], .int .i64 40]) (by simp [results, Tryd.results11, go_sem]) rfl ⟨?_, ?_⟩
            · rw [HR.out]; rfl
            · go_grown
end Go.Proofs.YtpckadpnedfkkaaDoor
