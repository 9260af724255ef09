import Derived.Test.YtpckadpnedfkkaaDoorGBound
namespace Go.Proofs.YtpckadpnedfkkaaDoor
open Go.RowKit Vi Gb
set_option linter.unusedVariables false
def lexOf (l : List UInt8) : List UInt8 × Int × Bool × Int :=
  if l = [45] then ([], -1, false, 0)
  else if l = [43] then ([], 1, false, 0)
  else if isC 91 l = true then (restL 91 l, 0, false, 0)
  else if isC 40 l = true then (restL 40 l, 0, true, 0)
  else ([], 0, false, 40)
def lexT (q : List UInt8 × Int × Bool × Int) : Value := .tuple #[.agg #[.string (strB q.1), .int .i64 q.2.1, .bool q.2.2.1], .int .i64 q.2.2.2]
set_option maxHeartbeats 1000000 in
set_option maxRecDepth 20000 in
theorem lex_any (s : ByteArray) (w : World) :
    Calls Tryd.prog 10 #[.string s] w fun e w' => e = .returned (lexT (lexOf s.data.toList)) ∧ Below w.heap.size w w' := by
  by_cases c1 : s.data.toList = [45]
  · have HR : Hid (lexOf s.data.toList = ([], -1, false, 0)) := by show _ = _; unfold lexOf; rw [if_pos c1]
    have t1 := lit_same c1
    clear c1
    go_enter Tryd.func10, Tryd.ntmps10
    go_wp2
    refine bodyPost_ret (v := .tuple #[.agg #[.string ⟨#[]⟩, .int .i64 (-1), .bool false], .int .i64 0]) (by simp [results, Tryd.results10, go_sem]) rfl ⟨?_, ?_⟩
    · rw [HR.out]; rfl
    · go_grown
  · have t1 := lit_other c1
    by_cases c2 : s.data.toList = [43]
    · have HR : Hid (lexOf s.data.toList = ([], 1, false, 0)) := by show _ = _; unfold lexOf; rw [if_neg c1, if_pos c2]
      have t2 := lit_same c2
      clear c1 c2
      go_enter Tryd.func10, Tryd.ntmps10
      go_wp2
      refine bodyPost_ret (v := .tuple #[.agg #[.string ⟨#[]⟩, .int .i64 1, .bool false], .int .i64 0]) (by simp [results, Tryd.results10, go_sem]) rfl ⟨?_, ?_⟩
      · rw [HR.out]; rfl
      · go_grown
    · have t2 := lit_other c2
      have HC1 : Hid (∀ w : World, _) := fun w => cut_any s 91 w
      have HC2 : Hid (∀ w : World, _) := fun w => cut_any s 40 w
      obtain ⟨r1, hr1⟩ : ∃ r, strB (restL 91 s.data.toList) = r := ⟨_, rfl⟩
      obtain ⟨r2, hr2⟩ : ∃ r, strB (restL 40 s.data.toList) = r := ⟨_, rfl⟩
      rw [hr1] at HC1
      rw [hr2] at HC2
      have HE1 : Hid _ := hr1
      have HE2 : Hid _ := hr2
      clear hr1 hr2
      by_cases c3 : isC 91 s.data.toList = true
      · have HR : Hid (lexOf s.data.toList = (restL 91 s.data.toList, 0, false, 0)) := by show _ = _; unfold lexOf; rw [if_neg c1, if_neg c2, if_pos c3]
        rw [c3] at HC1
        clear c1 c2 c3
        go_enter Tryd.func10, Tryd.ntmps10
        go_wp2_with fail
        refine (show Calls _ _ _ _ _ from HC1.out _).mono ?_
        rintro e w1 ⟨rfl, rfl⟩
        go_wp2
        refine bodyPost_ret (v := .tuple #[.agg #[.string r1, .int .i64 0, .bool false], .int .i64 0]) (by simp [results, Tryd.results10, go_sem]) rfl ⟨?_, ?_⟩
        · rw [HR.out, ← HE1.out]; rfl
        · go_grown
      · have c3' : isC 91 s.data.toList = false := by simpa using c3
        by_cases c4 : isC 40 s.data.toList = true
        · have HR : Hid (lexOf s.data.toList = (restL 40 s.data.toList, 0, true, 0)) := by show _ = _; unfold lexOf; rw [if_neg c1, if_neg c2, if_neg c3, if_pos c4]
          rw [c3'] at HC1
          rw [c4] at HC2
          clear c1 c2 c3 c3' c4
          go_enter Tryd.func10, Tryd.ntmps10
          go_wp2_with fail
          refine (show Calls _ _ _ _ _ from HC1.out _).mono ?_
          rintro e w1 ⟨rfl, rfl⟩
          go_wp2_with fail
          refine (show Calls _ _ _ _ _ from HC2.out _).mono ?_
          rintro e w2 ⟨rfl, rfl⟩
          go_wp2
          refine bodyPost_ret (v := .tuple #[.agg #[.string r2, .int .i64 0, .bool true], .int .i64 0]) (by simp [results, Tryd.results10, go_sem]) rfl ⟨?_, ?_⟩
          · rw [HR.out, ← HE2.out]; rfl
          · go_grown
        · have HR : Hid (lexOf s.data.toList = ([], 0, false, 40)) := by show _ = _; unfold lexOf; rw [if_neg c1, if_neg c2, if_neg c3, if_neg c4]
          rw [c3'] at HC1
          rw [show isC 40 s.data.toList = false by simpa using c4] at HC2
          clear c1 c2 c3 c3' c4
          go_enter Tryd.func10, Tryd.ntmps10
          go_wp2_with fail
          refine (show Calls _ _ _ _ _ from HC1.out _).mono ?_
          rintro e w1 ⟨rfl, rfl⟩
          go_wp2_with fail
          refine (show Calls _ _ _ _ _ from HC2.out _).mono ?_
          rintro e w2 ⟨rfl, rfl⟩
          go_wp2
          refine bodyPost_ret (v := .tuple #[.agg #[.string ⟨#[]⟩, .int .i64 0, .bool false], .int .i64 40]) (by simp [results, Tryd.results10, go_sem]) rfl ⟨?_, ?_⟩
          · rw [HR.out]; rfl
          · go_grown
end Go.Proofs.YtpckadpnedfkkaaDoor
