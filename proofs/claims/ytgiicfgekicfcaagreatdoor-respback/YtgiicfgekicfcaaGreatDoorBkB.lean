import Derived.Test.YtgiicfgekicfcaaGreatDoorBkC
namespace Go.Proofs.YtgiicfgekicfcaaGreatDoor
open Go.RowKit Vi
set_option linter.unusedVariables false
set_option linter.unusedSimpArgs false
theorem plain_of {s : ByteArray} (h : ∀ j (hj : j < s.size), s[j] ≠ 13 ∧ s[j] ≠ 10) : Plain s.data.toList := fun c hc => by
  obtain ⟨j, hj, e⟩ := List.getElem_of_mem hc
  have hj2 : j < s.size := by rw [← list_len]; exact hj
  have := h j hj2
  rw [← e]
  exact this
theorem txt_nil {s : ByteArray} (h : s.size = 0) : s.data.toList = [] := List.eq_nil_of_length_eq_zero (by rw [list_len]; exact h)
set_option maxRecDepth 20000 in
set_option maxHeartbeats 16000000 in
theorem clean_one (k : Nat) (kd n D : Int) (s : ByteArray) (Q : Nat → Prop) (v : Value) (l : List (Rn (Rp k))) (w : World) (C : Rn (Rp k) → Prop) (hx : l.length ≤ 1073741824) (hs : s.size ≤ 1073741824) (hD0 : 1 ≤ D) (hD1 : D ≤ 33) (hn0 : -9223372036854775808 ≤ n) (hn1 : n ≤ 9223372036854775807) (hA : RpB Q k (RpL Q k w) w v l)
    (IH : ∀ X ∈ l, ∀ (v : Value) (W : World), D ≤ 32 → RpL Q k W v X.list → Calls Tryz.prog 9 #[.agg #[.int .i64 X.kind, .string (strB X.text), .int .i64 X.n, v], .int .i64 (D + 1)] W fun e w' => ClPost (fun bb => bb = true → C X) e ∧ Below W.heap.size W w') :
    Calls Tryz.prog 9 #[.agg #[.int .i64 kd, .string s, .int .i64 n, v], .int .i64 D] w fun e w' => ClPost (fun bb => bb = true → ClH kd s.data.toList n l.length D ∧ ∀ X ∈ l, C X) e ∧ Below w.heap.size w w' := by
  obtain ⟨P1, c1, rfl⟩ : ∃ P c, v = .slice P l.length c := by obtain ⟨P, c, e, _⟩ := hA; exact ⟨P, c, e⟩
  obtain ⟨m, hm⟩ : ∃ m, l.length = m := ⟨_, rfl⟩
  have HM : Hid (l.length = m) := hm
  have HA : Hid (RpB Q k (RpL Q k w) w (.slice P1 m c1) l) := hm ▸ hA
  rw [hm] at hx ⊢
  have HIH : Hid _ := IH
  obtain ⟨W0, hW0⟩ : ∃ W, W = w.alloc (.cells #[.int .i64 kd, .string s, .int .i64 n, .slice P1 m c1] 24) := ⟨_, rfl⟩
  obtain ⟨b, hb⟩ : ∃ b, w.heap.size = b := ⟨_, rfl⟩
  have HBB : Hid (w.heap.size = b) := hb
  have hb0 : Below b w W0 := by rw [hW0, ← hb]; exact (Below.refl _ _).alloc (Nat.le_refl _) _
  have hr1 : W0.heap[b]? = some (.cells #[.int .i64 kd, .string s, .int .i64 n, .slice P1 m c1] 24) := by rw [hW0, ← hb]; exact one_alloc _ _
  have HB0 : Hid (Below b w W0) := hb0
  have HR1 : Hid _ := hr1
  obtain ⟨z0, z1, z2, z3, zf⟩ := prow4 hr1
  have hwD : IntKind.i64.wrap (D + 1) = D + 1 := by rw [IntKind.wrap_i64] <;> omega
  have HN : Hid (m = 0 → ∀ X ∈ l, C X) := fun e X hX => by
    have : l = [] := List.eq_nil_of_length_eq_zero (by rw [HM.out]; exact e)
    rw [this] at hX; cases hX
  have HPST : Hid (∀ (bb : Bool), True) := fun _ => trivial
  rw [hb]
  generalize hPO : (fun bb : Bool => bb = true → ClH kd s.data.toList n m D ∧ ∀ X ∈ l, C X) = PO
  have HPO : Hid (∀ bb, PO bb ↔ (bb = true → ClH kd s.data.toList n m D ∧ ∀ X ∈ l, C X)) := fun bb => by subst hPO; exact Iff.rfl
  have HF : Hid (PO false) := (HPO.out false).2 (fun h => by cases h)
  have HT : Hid (ClH kd s.data.toList n m D → (∀ X ∈ l, C X) → PO true) := fun h1 h2 => (HPO.out true).2 (fun _ => ⟨h1, h2⟩)
  clear hb0 hr1 hA hm IH hPO HPO
  go_enter Tryz.func9, Tryz.ntmps9
  go_upto_region 1 with fail
  rw [← hW0]
  clear hW0 hb
  go_wp2
  clear z0 z1 z2 z3 zf
  go_loopw [6, 7] (fun cb ci wr => ∃ (i : Nat) (pl : Bool), (i ≤ s.size ∧ (pl = true → ∀ j (hj : j < s.size), j < i → s[j] ≠ 13 ∧ s[j] ≠ 10) ∧ Below W0.heap.size W0 wr) ∧ cb = .bool pl ∧ ci = .int .i64 (i : Int)) (fun _ ci _ => s.size - (intOf ci).toNat)
  case atStart => exact ⟨0, true, ⟨Nat.zero_le _, fun _ j _ h => absurd h (Nat.not_lt_zero j), Below.refl _ _⟩, rfl, rfl⟩
  case round =>
    obtain ⟨i, pl, ⟨hi, hpl, hbw⟩, rfl, rfl⟩ := hrel
    have HBW : Hid (Below W0.heap.size W0 wr) := hbw
    obtain ⟨z0, z1, z2, z3, zf⟩ := prow4 (keep_row HR1.out hbw)
    have HBX : Hid (Below b w wr) := HB0.out.trans (hbw.mono (Nat.le_of_lt (row_lt HR1.out)))
    have HPL : Hid (pl = true → ∀ j (hj : j < s.size), j < i → s[j] ≠ 13 ∧ s[j] ≠ 10) := hpl
    clear hbw hpl
    by_cases hlt : i < s.size
    · have hz0 : (0 : Int) ≤ (i : Int) := by omega
      have hz1 : (i : Int) < (s.size : Int) := by omega
      have HTR : Hid (s[i].toNat ≠ 13 → s[i].toNat ≠ 10 → pl = true → ∀ j (hj : j < s.size), j < i + 1 → s[j] ≠ 13 ∧ s[j] ≠ 10) := fun h1 h2 hp j hj hji => by
        by_cases he : j = i
        · subst he
          exact ⟨fun e => h1 (by rw [e]; rfl), fun e => h2 (by rw [e]; rfl)⟩
        · exact HPL.out hp j hj (by omega)
      cases pl
      · go_wp2
        go_roundw
        case rel => exact ⟨i + 1, false, ⟨hlt, (fun h => by cases h), HBW.out⟩, rfl, rfl⟩
        case measure => simp [intOf]; omega
      · by_cases h13 : s[i].toNat = 13
        · have hq : ((s[i].toNat : Int) != 13) = false := by simp; omega
          go_wp2
          go_roundw
          case rel => exact ⟨i + 1, false, ⟨hlt, (fun h => by cases h), HBW.out⟩, rfl, rfl⟩
          case measure => simp [intOf]; omega
        · have hq : ((s[i].toNat : Int) != 13) = true := by simp; omega
          by_cases h10 : s[i].toNat = 10
          · have hq2 : ((s[i].toNat : Int) != 10) = false := by simp; omega
            go_wp2
            go_roundw
            case rel => exact ⟨i + 1, false, ⟨hlt, (fun h => by cases h), HBW.out⟩, rfl, rfl⟩
            case measure => simp [intOf]; omega
          · have hq2 : ((s[i].toNat : Int) != 10) = true := by simp; omega
            go_wp2
            go_roundw
            case rel => exact ⟨i + 1, true, ⟨hlt, HTR.out h13 h10, HBW.out⟩, rfl, rfl⟩
            case measure => simp [intOf]; omega
    · have hin : i = s.size := by omega
      subst hin
      have HPP : Hid (pl = true → Plain s.data.toList) := fun h => plain_of (fun j hj => HPL.out h j hj hj)
      have HTX : Hid (s.size = 0 → s.data.toList = []) := txt_nil
      clear hlt hi HPL
      obtain ⟨Wm, hWm⟩ : ∃ W, W = wr := ⟨_, rfl⟩
      subst hWm
      have HBS : Hid (b ≤ Wm.heap.size) := by show _ ≤ _; rw [← HBB.out]; exact HBX.out.size
      by_cases hk1 : kd = 1
      case pos =>
        subst hk1
        cases pl
        · go_wp2
          go_returns
          exact ⟨ClPost.mk HF.out, HBX.out⟩
        · have hP := HPP.out rfl
          have HP : Hid _ := hP
          clear hP
          by_cases h0n : n = 0
          case neg =>
            have hq2 : (n == 0) = false := by simpa using h0n
            go_wp2
            go_returns
            exact ⟨ClPost.mk HF.out, HBX.out⟩
          case pos =>
            have hq2 : (n == 0) = true := by simpa using h0n
            by_cases h0m : m = 0
            case neg =>
              have hq3 : ((m : Int) == 0) = false := by simp; omega
              go_wp2
              go_returns
              exact ⟨ClPost.mk HF.out, HBX.out⟩
            case pos =>
              have hq3 : ((m : Int) == 0) = true := by simp; omega
              go_wp2
              go_returns
              exact ⟨ClPost.mk (HT.out ⟨Or.inl ⟨Or.inl rfl, HP.out, h0n, h0m⟩, by decide, fun h => by cases h⟩ (HN.out h0m)), HBX.out⟩
      case neg =>
        have hf1 : (kd == 1) = false := by simpa using hk1
        by_cases hk2 : kd = 2
        case pos =>
          subst hk2
          cases pl
          · go_wp2
            go_returns
            exact ⟨ClPost.mk HF.out, HBX.out⟩
          · have hP := HPP.out rfl
            have HP : Hid _ := hP
            clear hP
            by_cases h0n : n = 0
            case neg =>
              have hq2 : (n == 0) = false := by simpa using h0n
              go_wp2
              go_returns
              exact ⟨ClPost.mk HF.out, HBX.out⟩
            case pos =>
              have hq2 : (n == 0) = true := by simpa using h0n
              by_cases h0m : m = 0
              case neg =>
                have hq3 : ((m : Int) == 0) = false := by simp; omega
                go_wp2
                go_returns
                exact ⟨ClPost.mk HF.out, HBX.out⟩
              case pos =>
                have hq3 : ((m : Int) == 0) = true := by simp; omega
                go_wp2
                go_returns
                exact ⟨ClPost.mk (HT.out ⟨Or.inl ⟨Or.inr rfl, HP.out, h0n, h0m⟩, by decide, fun h => by cases h⟩ (HN.out h0m)), HBX.out⟩
        case neg =>
          have hf2 : (kd == 2) = false := by simpa using hk2
          by_cases hk3 : kd = 3
          case pos =>
            subst hk3
            by_cases h0s : s.size = 0
            case neg =>
              have hq1 : s.toList.isEmpty = false := full_str s (by omega)
              go_wp2
              go_returns
              exact ⟨ClPost.mk HF.out, HBX.out⟩
            case pos =>
              have hq1 : s.toList.isEmpty = true := str_empty h0s
              have HE : Hid (s.data.toList = []) := HTX.out h0s
              clear h0s
              by_cases h0m : m = 0
              case neg =>
                have hq3 : ((m : Int) == 0) = false := by simp; omega
                go_wp2
                go_returns
                exact ⟨ClPost.mk HF.out, HBX.out⟩
              case pos =>
                have hq3 : ((m : Int) == 0) = true := by simp; omega
                go_wp2
                go_returns
                exact ⟨ClPost.mk (HT.out ⟨Or.inr (Or.inl ⟨rfl, HE.out, ⟨hn0, hn1⟩, h0m⟩), by decide, fun h => by cases h⟩ (HN.out h0m)), HBX.out⟩
          case neg =>
            have hf3 : (kd == 3) = false := by simpa using hk3
            by_cases hk4 : kd = 4
            case pos =>
              subst hk4
              by_cases hln : (s.size : Int) ≤ 524288
              case neg =>
                have hq4 : decide ((s.size : Int) ≤ 524288) = false := decide_eq_false hln
                go_wp2
                go_returns
                exact ⟨ClPost.mk HF.out, HBX.out⟩
              case pos =>
                have hq4 : decide ((s.size : Int) ≤ 524288) = true := decide_eq_true hln
                by_cases h0n : n = 0
                case neg =>
                  have hq2 : (n == 0) = false := by simpa using h0n
                  go_wp2
                  go_returns
                  exact ⟨ClPost.mk HF.out, HBX.out⟩
                case pos =>
                  have hq2 : (n == 0) = true := by simpa using h0n
                  by_cases h0m : m = 0
                  case neg =>
                    have hq3 : ((m : Int) == 0) = false := by simp; omega
                    go_wp2
                    go_returns
                    exact ⟨ClPost.mk HF.out, HBX.out⟩
                  case pos =>
                    have hq3 : ((m : Int) == 0) = true := by simp; omega
                    go_wp2
                    go_returns
                    exact ⟨ClPost.mk (HT.out ⟨Or.inr (Or.inr (Or.inl ⟨rfl, by rw [list_len]; omega, h0n, h0m⟩)), by decide, fun h => by cases h⟩ (HN.out h0m)), HBX.out⟩
            case neg =>
              have hf4 : (kd == 4) = false := by simpa using hk4
              by_cases hk0 : kd = 0
              case pos =>
                subst hk0
                by_cases h0s : s.size = 0
                case neg =>
                  have hq1 : s.toList.isEmpty = false := full_str s (by omega)
                  go_wp2
                  go_returns
                  exact ⟨ClPost.mk HF.out, HBX.out⟩
                case pos =>
                  have hq1 : s.toList.isEmpty = true := str_empty h0s
                  have HE : Hid (s.data.toList = []) := HTX.out h0s
                  clear h0s
                  by_cases h0n : n = 0
                  case neg =>
                    have hq2 : (n == 0) = false := by simpa using h0n
                    go_wp2
                    go_returns
                    exact ⟨ClPost.mk HF.out, HBX.out⟩
                  case pos =>
                    have hq2 : (n == 0) = true := by simpa using h0n
                    by_cases h0m : m = 0
                    case neg =>
                      have hq3 : ((m : Int) == 0) = false := by simp; omega
                      go_wp2
                      go_returns
                      exact ⟨ClPost.mk HF.out, HBX.out⟩
                    case pos =>
                      have hq3 : ((m : Int) == 0) = true := by simp; omega
                      go_wp2
                      go_returns
                      exact ⟨ClPost.mk (HT.out ⟨Or.inr (Or.inr (Or.inr (Or.inl ⟨Or.inl rfl, HE.out, h0n, h0m⟩))), by decide, fun h => by cases h⟩ (HN.out h0m)), HBX.out⟩
              case neg =>
                have hf0 : (kd == 0) = false := by simpa using hk0
                by_cases hk11 : kd = 11
                case pos =>
                  subst hk11
                  by_cases h0s : s.size = 0
                  case neg =>
                    have hq1 : s.toList.isEmpty = false := full_str s (by omega)
                    go_wp2
                    go_returns
                    exact ⟨ClPost.mk HF.out, HBX.out⟩
                  case pos =>
                    have hq1 : s.toList.isEmpty = true := str_empty h0s
                    have HE : Hid (s.data.toList = []) := HTX.out h0s
                    clear h0s
                    by_cases h0n : n = 0
                    case pos =>
                      have hq2 : (n == 0) = true := by simpa using h0n
                      by_cases h0m : m = 0
                      case neg =>
                        have hq3 : ((m : Int) == 0) = false := by simp; omega
                        go_wp2
                        go_returns
                        exact ⟨ClPost.mk HF.out, HBX.out⟩
                      case pos =>
                        have hq3 : ((m : Int) == 0) = true := by simp; omega
                        go_wp2
                        go_returns
                        exact ⟨ClPost.mk (HT.out ⟨Or.inr (Or.inr (Or.inr (Or.inr (Or.inl ⟨rfl, HE.out, Or.inl h0n, h0m⟩)))), by decide, fun h => by cases h⟩ (HN.out h0m)), HBX.out⟩
                    case neg =>
                      have hq2 : (n == 0) = false := by simpa using h0n
                      by_cases h1n : n = 1
                      case neg =>
                        have hq5 : (n == 1) = false := by simpa using h1n
                        go_wp2
                        go_returns
                        exact ⟨ClPost.mk HF.out, HBX.out⟩
                      case pos =>
                        have hq5 : (n == 1) = true := by simpa using h1n
                        by_cases h0m : m = 0
                        case neg =>
                          have hq3 : ((m : Int) == 0) = false := by simp; omega
                          go_wp2
                          go_returns
                          exact ⟨ClPost.mk HF.out, HBX.out⟩
                        case pos =>
                          have hq3 : ((m : Int) == 0) = true := by simp; omega
                          go_wp2
                          go_returns
                          exact ⟨ClPost.mk (HT.out ⟨Or.inr (Or.inr (Or.inr (Or.inr (Or.inl ⟨rfl, HE.out, Or.inr h1n, h0m⟩)))), by decide, fun h => by cases h⟩ (HN.out h0m)), HBX.out⟩
                case neg =>
                  have hf11 : (kd == 11) = false := by simpa using hk11
                  by_cases hk5 : kd = 5
                  case pos =>
                    subst hk5
                    by_cases h0s : s.size = 0
                    case neg =>
                      have hq1 : s.toList.isEmpty = false := full_str s (by omega)
                      go_wp2
                      go_loopw [8, 9] (fun cb ci wr => ∃ i : Nat, (i ≤ m ∧ Below Wm.heap.size Wm wr) ∧ cb = .bool false ∧ ci = .int .i64 (i : Int)) (fun _ ci _ => m - (intOf ci).toNat)
                      case atStart => exact ⟨0, ⟨Nat.zero_le _, Below.refl _ _⟩, rfl, rfl⟩
                      case round =>
                        obtain ⟨i, ⟨hi, hbw⟩, rfl, rfl⟩ := hrel
                        have HBY : Hid (Below Wm.heap.size Wm wr) := hbw
                        clear hbw z0 z1 z2 z3 zf
                        by_cases hlt : i < m
                        · go_wp2
                          go_roundw
                          case rel => exact ⟨i + 1, ⟨hlt, HBY.out⟩, rfl, rfl⟩
                          case measure => simp [intOf]; omega
                        · go_wp2
                          go_returns
                          exact ⟨ClPost.mk HF.out, HBX.out.trans (HBY.out.mono HBS.out)⟩
                    case pos =>
                      have hq1 : s.toList.isEmpty = true := str_empty h0s
                      have HE : Hid (s.data.toList = []) := HTX.out h0s
                      clear h0s
                      by_cases h0n : n = 0
                      case neg =>
                        have hq2 : (n == 0) = false := by simpa using h0n
                        go_wp2
                        go_loopw [8, 9] (fun cb ci wr => ∃ i : Nat, (i ≤ m ∧ Below Wm.heap.size Wm wr) ∧ cb = .bool false ∧ ci = .int .i64 (i : Int)) (fun _ ci _ => m - (intOf ci).toNat)
                        case atStart => exact ⟨0, ⟨Nat.zero_le _, Below.refl _ _⟩, rfl, rfl⟩
                        case round =>
                          obtain ⟨i, ⟨hi, hbw⟩, rfl, rfl⟩ := hrel
                          have HBY : Hid (Below Wm.heap.size Wm wr) := hbw
                          clear hbw z0 z1 z2 z3 zf
                          by_cases hlt : i < m
                          · go_wp2
                            go_roundw
                            case rel => exact ⟨i + 1, ⟨hlt, HBY.out⟩, rfl, rfl⟩
                            case measure => simp [intOf]; omega
                          · go_wp2
                            go_returns
                            exact ⟨ClPost.mk HF.out, HBX.out.trans (HBY.out.mono HBS.out)⟩
                      case pos =>
                        subst h0n
                        by_cases hmm : (m : Int) ≤ 1048576
                        case neg =>
                          have hq3 : decide ((m : Int) ≤ 1048576) = false := decide_eq_false hmm
                          go_wp2
                          go_loopw [8, 9] (fun cb ci wr => ∃ i : Nat, (i ≤ m ∧ Below Wm.heap.size Wm wr) ∧ cb = .bool false ∧ ci = .int .i64 (i : Int)) (fun _ ci _ => m - (intOf ci).toNat)
                          case atStart => exact ⟨0, ⟨Nat.zero_le _, Below.refl _ _⟩, rfl, rfl⟩
                          case round =>
                            obtain ⟨i, ⟨hi, hbw⟩, rfl, rfl⟩ := hrel
                            have HBY : Hid (Below Wm.heap.size Wm wr) := hbw
                            clear hbw z0 z1 z2 z3 zf
                            by_cases hlt : i < m
                            · go_wp2
                              go_roundw
                              case rel => exact ⟨i + 1, ⟨hlt, HBY.out⟩, rfl, rfl⟩
                              case measure => simp [intOf]; omega
                            · go_wp2
                              go_returns
                              exact ⟨ClPost.mk HF.out, HBX.out.trans (HBY.out.mono HBS.out)⟩
                        case pos =>
                          have hq3 : decide ((m : Int) ≤ 1048576) = true := decide_eq_true hmm
                          by_cases hDD : D ≤ 32
                          case neg =>
                            have hq4 : decide (D ≤ 32) = false := decide_eq_false hDD
                            go_wp2
                            go_loopw [8, 9] (fun cb ci wr => ∃ i : Nat, (i ≤ m ∧ Below Wm.heap.size Wm wr) ∧ cb = .bool false ∧ ci = .int .i64 (i : Int)) (fun _ ci _ => m - (intOf ci).toNat)
                            case atStart => exact ⟨0, ⟨Nat.zero_le _, Below.refl _ _⟩, rfl, rfl⟩
                            case round =>
                              obtain ⟨i, ⟨hi, hbw⟩, rfl, rfl⟩ := hrel
                              have HBY : Hid (Below Wm.heap.size Wm wr) := hbw
                              clear hbw z0 z1 z2 z3 zf
                              by_cases hlt : i < m
                              · go_wp2
                                go_roundw
                                case rel => exact ⟨i + 1, ⟨hlt, HBY.out⟩, rfl, rfl⟩
                                case measure => simp [intOf]; omega
                              · go_wp2
                                go_returns
                                exact ⟨ClPost.mk HF.out, HBX.out.trans (HBY.out.mono HBS.out)⟩
                          case pos =>
                            have hq4 : decide (D ≤ 32) = true := decide_eq_true hDD
                            go_wp2
                            go_loopw [8, 9] (fun cb ci wr => ∃ (i : Nat) (ok : Bool), (i ≤ m ∧ (ok = true → ∀ X ∈ l.take i, C X) ∧ Below Wm.heap.size Wm wr) ∧ cb = .bool ok ∧ ci = .int .i64 (i : Int)) (fun _ ci _ => m - (intOf ci).toNat)
                            case atStart => exact ⟨0, true, ⟨Nat.zero_le _, (fun _ X hX => by simp at hX), Below.refl _ _⟩, rfl, rfl⟩
                            case round =>
                              obtain ⟨i, ok, ⟨hi, hok, hbw⟩, rfl, rfl⟩ := hrel
                              have HBY : Hid (Below Wm.heap.size Wm wr) := hbw
                              have HOK : Hid (ok = true → ∀ X ∈ l.take i, C X) := hok
                              have HBZ : Hid (Below b w wr) := HBX.out.trans (hbw.mono HBS.out)
                              have HBU : Hid (Below W0.heap.size W0 wr) := HBW.out.trans (hbw.mono HBW.out.size)
                              clear hbw hok z0 z1 z2 z3 zf
                              obtain ⟨z0, z1, z2, z3, zf⟩ := prow4 (keep_row HR1.out HBU.out)
                              by_cases hlt : i < m
                              · cases ok
                                · go_wp2
                                  go_roundw
                                  case rel => exact ⟨i + 1, false, ⟨hlt, (fun h => by cases h), HBY.out⟩, rfl, rfl⟩
                                  case measure => simp [intOf]; omega
                                · have hix : i < l.length := by rw [HM.out]; exact hlt
                                  have hbx : Below w.heap.size w wr := HBB.out ▸ HBZ.out
                                  have hA2 : RpB Q k (RpL Q k wr) wr (.slice P1 m c1) l := HA.out.keep (fun g hg hl => ⟨hg, hbx.block g hl⟩) (fun v t h => h.on hbx)
                                  obtain ⟨g1, o1, l1, hP1, d0, d1, d2, d3, d4⟩ := hA2.cell i hix
                                  obtain ⟨X, hX⟩ : ∃ X, l[i] = X := ⟨_, rfl⟩
                                  have hxm : X ∈ l := by rw [← hX]; exact List.getElem_mem hix
                                  have HTK : Hid (C X → ∀ Y ∈ l.take (i + 1), C Y) := fun hc Y hY => by
                                    rw [List.take_add_one, List.getElem?_eq_getElem hix, List.mem_append] at hY
                                    rcases hY with hY | hY
                                    · exact HOK.out rfl Y hY
                                    · have : Y = l[i] := by simpa using hY
                                      rw [this, hX]; exact hc
                                  rw [hX] at d0 d1 d2 d4
                                  obtain ⟨LP1, lc1, hl1⟩ := d4.form
                                  subst hl1
                                  subst hP1
                                  have HCC : Hid (∀ W, Below wr.heap.size wr W → Calls Tryz.prog 9 #[.agg #[.int .i64 X.kind, .string (strB X.text), .int .i64 X.n, .slice LP1 X.list.length lc1], .int .i64 (D + 1)] W fun e w' => ClPost (fun bb => bb = true → C X) e ∧ Below W.heap.size W w') := fun W hW => HIH.out X hxm _ W hDD (d4.on hW)
                                  have hz0 : (0 : Int) ≤ (i : Int) := by omega
                                  have hz1 : (i : Int) < (m : Int) := by omega
                                  obtain ⟨XL, hXL⟩ : ∃ XL, X.list.length = XL := ⟨_, rfl⟩
                                  obtain ⟨XT, hXT⟩ : ∃ XT, strB X.text = XT := ⟨_, rfl⟩
                                  rw [hXL, hXT] at HCC
                                  rw [hXL] at d3
                                  rw [hXT] at d1
                                  clear hX hix hxm hA2 d4 hbx hXL hXT
                                  have HCD : Hid _ := HCC.out wr (Below.refl _ _)
                                  go_wp2_with fail
                                  refine (show Calls _ _ _ _ _ from HCD.out).mono ?_
                                  rintro e w2 ⟨⟨bb, rfl, hbb⟩, hbx⟩
                                  have HB2 : Hid (Below Wm.heap.size Wm w2) := HBY.out.trans (hbx.mono HBY.out.size)
                                  have HBC : Hid (bb = true → ∀ Y ∈ l.take (i + 1), C Y) := fun h => HTK.out (hbb h)
                                  clear hbx z0 z1 z2 z3 zf d0 d1 d2 d3 hbb
                                  cases bb
                                  · go_wp2
                                    go_roundw
                                    case rel => exact ⟨i + 1, false, ⟨hlt, (fun h => by cases h), HB2.out⟩, rfl, rfl⟩
                                    case measure => simp [intOf]; omega
                                  · have HBT : Hid (∀ Y ∈ l.take (i + 1), C Y) := HBC.out rfl
                                    clear HBC
                                    go_wp2
                                    go_roundw
                                    case rel => exact ⟨i + 1, true, ⟨hlt, (fun _ => HBT.out), HB2.out⟩, rfl, rfl⟩
                                    case measure => simp [intOf]; omega
                              · have hin : i = m := by omega
                                subst hin
                                have HAL : Hid (ok = true → ∀ X ∈ l, C X) := fun h X hX => HOK.out h X (by rw [List.take_of_length_le (by rw [HM.out]; exact Nat.le_refl _)]; exact hX)
                                cases ok
                                · go_wp2
                                  go_returns
                                  exact ⟨ClPost.mk HF.out, HBZ.out⟩
                                · have HAT : Hid (∀ X ∈ l, C X) := HAL.out rfl
                                  clear HAL
                                  go_wp2
                                  go_returns
                                  exact ⟨ClPost.mk (HT.out ⟨Or.inr (Or.inr (Or.inr (Or.inr (Or.inr (Or.inl ⟨Or.inl rfl, HE.out, rfl, by omega⟩))))), by decide, fun _ => hDD⟩ HAT.out), HBZ.out⟩
                  case neg =>
                    have hf5 : (kd == 5) = false := by simpa using hk5
                    by_cases hk6 : kd = 6
                    case pos =>
                      subst hk6
                      by_cases h0s : s.size = 0
                      case neg =>
                        have hq1 : s.toList.isEmpty = false := full_str s (by omega)
                        go_wp2
                        go_loopw [8, 9] (fun cb ci wr => ∃ i : Nat, (i ≤ m ∧ Below Wm.heap.size Wm wr) ∧ cb = .bool false ∧ ci = .int .i64 (i : Int)) (fun _ ci _ => m - (intOf ci).toNat)
                        case atStart => exact ⟨0, ⟨Nat.zero_le _, Below.refl _ _⟩, rfl, rfl⟩
                        case round =>
                          obtain ⟨i, ⟨hi, hbw⟩, rfl, rfl⟩ := hrel
                          have HBY : Hid (Below Wm.heap.size Wm wr) := hbw
                          clear hbw z0 z1 z2 z3 zf
                          by_cases hlt : i < m
                          · go_wp2
                            go_roundw
                            case rel => exact ⟨i + 1, ⟨hlt, HBY.out⟩, rfl, rfl⟩
                            case measure => simp [intOf]; omega
                          · go_wp2
                            go_returns
                            exact ⟨ClPost.mk HF.out, HBX.out.trans (HBY.out.mono HBS.out)⟩
                      case pos =>
                        have hq1 : s.toList.isEmpty = true := str_empty h0s
                        have HE : Hid (s.data.toList = []) := HTX.out h0s
                        clear h0s
                        by_cases h0n : n = 0
                        case neg =>
                          have hq2 : (n == 0) = false := by simpa using h0n
                          go_wp2
                          go_loopw [8, 9] (fun cb ci wr => ∃ i : Nat, (i ≤ m ∧ Below Wm.heap.size Wm wr) ∧ cb = .bool false ∧ ci = .int .i64 (i : Int)) (fun _ ci _ => m - (intOf ci).toNat)
                          case atStart => exact ⟨0, ⟨Nat.zero_le _, Below.refl _ _⟩, rfl, rfl⟩
                          case round =>
                            obtain ⟨i, ⟨hi, hbw⟩, rfl, rfl⟩ := hrel
                            have HBY : Hid (Below Wm.heap.size Wm wr) := hbw
                            clear hbw z0 z1 z2 z3 zf
                            by_cases hlt : i < m
                            · go_wp2
                              go_roundw
                              case rel => exact ⟨i + 1, ⟨hlt, HBY.out⟩, rfl, rfl⟩
                              case measure => simp [intOf]; omega
                            · go_wp2
                              go_returns
                              exact ⟨ClPost.mk HF.out, HBX.out.trans (HBY.out.mono HBS.out)⟩
                        case pos =>
                          subst h0n
                          by_cases hmm : (m : Int) ≤ 1048576
                          case neg =>
                            have hq3 : decide ((m : Int) ≤ 1048576) = false := decide_eq_false hmm
                            go_wp2
                            go_loopw [8, 9] (fun cb ci wr => ∃ i : Nat, (i ≤ m ∧ Below Wm.heap.size Wm wr) ∧ cb = .bool false ∧ ci = .int .i64 (i : Int)) (fun _ ci _ => m - (intOf ci).toNat)
                            case atStart => exact ⟨0, ⟨Nat.zero_le _, Below.refl _ _⟩, rfl, rfl⟩
                            case round =>
                              obtain ⟨i, ⟨hi, hbw⟩, rfl, rfl⟩ := hrel
                              have HBY : Hid (Below Wm.heap.size Wm wr) := hbw
                              clear hbw z0 z1 z2 z3 zf
                              by_cases hlt : i < m
                              · go_wp2
                                go_roundw
                                case rel => exact ⟨i + 1, ⟨hlt, HBY.out⟩, rfl, rfl⟩
                                case measure => simp [intOf]; omega
                              · go_wp2
                                go_returns
                                exact ⟨ClPost.mk HF.out, HBX.out.trans (HBY.out.mono HBS.out)⟩
                          case pos =>
                            have hq3 : decide ((m : Int) ≤ 1048576) = true := decide_eq_true hmm
                            by_cases hDD : D ≤ 32
                            case neg =>
                              have hq4 : decide (D ≤ 32) = false := decide_eq_false hDD
                              go_wp2
                              go_loopw [8, 9] (fun cb ci wr => ∃ i : Nat, (i ≤ m ∧ Below Wm.heap.size Wm wr) ∧ cb = .bool false ∧ ci = .int .i64 (i : Int)) (fun _ ci _ => m - (intOf ci).toNat)
                              case atStart => exact ⟨0, ⟨Nat.zero_le _, Below.refl _ _⟩, rfl, rfl⟩
                              case round =>
                                obtain ⟨i, ⟨hi, hbw⟩, rfl, rfl⟩ := hrel
                                have HBY : Hid (Below Wm.heap.size Wm wr) := hbw
                                clear hbw z0 z1 z2 z3 zf
                                by_cases hlt : i < m
                                · go_wp2
                                  go_roundw
                                  case rel => exact ⟨i + 1, ⟨hlt, HBY.out⟩, rfl, rfl⟩
                                  case measure => simp [intOf]; omega
                                · go_wp2
                                  go_returns
                                  exact ⟨ClPost.mk HF.out, HBX.out.trans (HBY.out.mono HBS.out)⟩
                            case pos =>
                              have hq4 : decide (D ≤ 32) = true := decide_eq_true hDD
                              have hwr : IntKind.i64.wrap ((m : Int).tmod 2) = (m : Int).tmod 2 := by rw [Int.tmod_eq_emod_of_nonneg (by omega), IntKind.wrap_i64] <;> omega
                              by_cases hev : m % 2 = 0
                              case neg =>
                                have hq5 : ((m : Int) % 2 == 0) = false := by simp; omega
                                go_wp2
                                go_loopw [8, 9] (fun cb ci wr => ∃ i : Nat, (i ≤ m ∧ Below Wm.heap.size Wm wr) ∧ cb = .bool false ∧ ci = .int .i64 (i : Int)) (fun _ ci _ => m - (intOf ci).toNat)
                                case atStart => exact ⟨0, ⟨Nat.zero_le _, Below.refl _ _⟩, rfl, rfl⟩
                                case round =>
                                  obtain ⟨i, ⟨hi, hbw⟩, rfl, rfl⟩ := hrel
                                  have HBY : Hid (Below Wm.heap.size Wm wr) := hbw
                                  clear hbw z0 z1 z2 z3 zf
                                  by_cases hlt : i < m
                                  · go_wp2
                                    go_roundw
                                    case rel => exact ⟨i + 1, ⟨hlt, HBY.out⟩, rfl, rfl⟩
                                    case measure => simp [intOf]; omega
                                  · go_wp2
                                    go_returns
                                    exact ⟨ClPost.mk HF.out, HBX.out.trans (HBY.out.mono HBS.out)⟩
                              case pos =>
                                have hq5 : ((m : Int) % 2 == 0) = true := by simp; omega
                                go_wp2
                                go_loopw [8, 9] (fun cb ci wr => ∃ (i : Nat) (ok : Bool), (i ≤ m ∧ (ok = true → ∀ X ∈ l.take i, C X) ∧ Below Wm.heap.size Wm wr) ∧ cb = .bool ok ∧ ci = .int .i64 (i : Int)) (fun _ ci _ => m - (intOf ci).toNat)
                                case atStart => exact ⟨0, true, ⟨Nat.zero_le _, (fun _ X hX => by simp at hX), Below.refl _ _⟩, rfl, rfl⟩
                                case round =>
                                  obtain ⟨i, ok, ⟨hi, hok, hbw⟩, rfl, rfl⟩ := hrel
                                  have HBY : Hid (Below Wm.heap.size Wm wr) := hbw
                                  have HOK : Hid (ok = true → ∀ X ∈ l.take i, C X) := hok
                                  have HBZ : Hid (Below b w wr) := HBX.out.trans (hbw.mono HBS.out)
                                  have HBU : Hid (Below W0.heap.size W0 wr) := HBW.out.trans (hbw.mono HBW.out.size)
                                  clear hbw hok z0 z1 z2 z3 zf
                                  obtain ⟨z0, z1, z2, z3, zf⟩ := prow4 (keep_row HR1.out HBU.out)
                                  by_cases hlt : i < m
                                  · cases ok
                                    · go_wp2
                                      go_roundw
                                      case rel => exact ⟨i + 1, false, ⟨hlt, (fun h => by cases h), HBY.out⟩, rfl, rfl⟩
                                      case measure => simp [intOf]; omega
                                    · have hix : i < l.length := by rw [HM.out]; exact hlt
                                      have hbx : Below w.heap.size w wr := HBB.out ▸ HBZ.out
                                      have hA2 : RpB Q k (RpL Q k wr) wr (.slice P1 m c1) l := HA.out.keep (fun g hg hl => ⟨hg, hbx.block g hl⟩) (fun v t h => h.on hbx)
                                      obtain ⟨g1, o1, l1, hP1, d0, d1, d2, d3, d4⟩ := hA2.cell i hix
                                      obtain ⟨X, hX⟩ : ∃ X, l[i] = X := ⟨_, rfl⟩
                                      have hxm : X ∈ l := by rw [← hX]; exact List.getElem_mem hix
                                      have HTK : Hid (C X → ∀ Y ∈ l.take (i + 1), C Y) := fun hc Y hY => by
                                        rw [List.take_add_one, List.getElem?_eq_getElem hix, List.mem_append] at hY
                                        rcases hY with hY | hY
                                        · exact HOK.out rfl Y hY
                                        · have : Y = l[i] := by simpa using hY
                                          rw [this, hX]; exact hc
                                      rw [hX] at d0 d1 d2 d4
                                      obtain ⟨LP1, lc1, hl1⟩ := d4.form
                                      subst hl1
                                      subst hP1
                                      have HCC : Hid (∀ W, Below wr.heap.size wr W → Calls Tryz.prog 9 #[.agg #[.int .i64 X.kind, .string (strB X.text), .int .i64 X.n, .slice LP1 X.list.length lc1], .int .i64 (D + 1)] W fun e w' => ClPost (fun bb => bb = true → C X) e ∧ Below W.heap.size W w') := fun W hW => HIH.out X hxm _ W hDD (d4.on hW)
                                      have hz0 : (0 : Int) ≤ (i : Int) := by omega
                                      have hz1 : (i : Int) < (m : Int) := by omega
                                      obtain ⟨XL, hXL⟩ : ∃ XL, X.list.length = XL := ⟨_, rfl⟩
                                      obtain ⟨XT, hXT⟩ : ∃ XT, strB X.text = XT := ⟨_, rfl⟩
                                      rw [hXL, hXT] at HCC
                                      rw [hXL] at d3
                                      rw [hXT] at d1
                                      clear hX hix hxm hA2 d4 hbx hXL hXT
                                      have HCD : Hid _ := HCC.out wr (Below.refl _ _)
                                      go_wp2_with fail
                                      refine (show Calls _ _ _ _ _ from HCD.out).mono ?_
                                      rintro e w2 ⟨⟨bb, rfl, hbb⟩, hbx⟩
                                      have HB2 : Hid (Below Wm.heap.size Wm w2) := HBY.out.trans (hbx.mono HBY.out.size)
                                      have HBC : Hid (bb = true → ∀ Y ∈ l.take (i + 1), C Y) := fun h => HTK.out (hbb h)
                                      clear hbx z0 z1 z2 z3 zf d0 d1 d2 d3 hbb
                                      cases bb
                                      · go_wp2
                                        go_roundw
                                        case rel => exact ⟨i + 1, false, ⟨hlt, (fun h => by cases h), HB2.out⟩, rfl, rfl⟩
                                        case measure => simp [intOf]; omega
                                      · have HBT : Hid (∀ Y ∈ l.take (i + 1), C Y) := HBC.out rfl
                                        clear HBC
                                        go_wp2
                                        go_roundw
                                        case rel => exact ⟨i + 1, true, ⟨hlt, (fun _ => HBT.out), HB2.out⟩, rfl, rfl⟩
                                        case measure => simp [intOf]; omega
                                  · have hin : i = m := by omega
                                    subst hin
                                    have HAL : Hid (ok = true → ∀ X ∈ l, C X) := fun h X hX => HOK.out h X (by rw [List.take_of_length_le (by rw [HM.out]; exact Nat.le_refl _)]; exact hX)
                                    cases ok
                                    · go_wp2
                                      go_returns
                                      exact ⟨ClPost.mk HF.out, HBZ.out⟩
                                    · have HAT : Hid (∀ X ∈ l, C X) := HAL.out rfl
                                      clear HAL
                                      go_wp2
                                      go_returns
                                      exact ⟨ClPost.mk (HT.out ⟨Or.inr (Or.inr (Or.inr (Or.inr (Or.inr (Or.inr ⟨rfl, HE.out, rfl, by omega, hev⟩))))), by decide, fun _ => hDD⟩ HAT.out), HBZ.out⟩
                    case neg =>
                      have hf6 : (kd == 6) = false := by simpa using hk6
                      by_cases hk7 : kd = 7
                      case pos =>
                        subst hk7
                        by_cases h0s : s.size = 0
                        case neg =>
                          have hq1 : s.toList.isEmpty = false := full_str s (by omega)
                          go_wp2
                          go_loopw [8, 9] (fun cb ci wr => ∃ i : Nat, (i ≤ m ∧ Below Wm.heap.size Wm wr) ∧ cb = .bool false ∧ ci = .int .i64 (i : Int)) (fun _ ci _ => m - (intOf ci).toNat)
                          case atStart => exact ⟨0, ⟨Nat.zero_le _, Below.refl _ _⟩, rfl, rfl⟩
                          case round =>
                            obtain ⟨i, ⟨hi, hbw⟩, rfl, rfl⟩ := hrel
                            have HBY : Hid (Below Wm.heap.size Wm wr) := hbw
                            clear hbw z0 z1 z2 z3 zf
                            by_cases hlt : i < m
                            · go_wp2
                              go_roundw
                              case rel => exact ⟨i + 1, ⟨hlt, HBY.out⟩, rfl, rfl⟩
                              case measure => simp [intOf]; omega
                            · go_wp2
                              go_returns
                              exact ⟨ClPost.mk HF.out, HBX.out.trans (HBY.out.mono HBS.out)⟩
                        case pos =>
                          have hq1 : s.toList.isEmpty = true := str_empty h0s
                          have HE : Hid (s.data.toList = []) := HTX.out h0s
                          clear h0s
                          by_cases h0n : n = 0
                          case neg =>
                            have hq2 : (n == 0) = false := by simpa using h0n
                            go_wp2
                            go_loopw [8, 9] (fun cb ci wr => ∃ i : Nat, (i ≤ m ∧ Below Wm.heap.size Wm wr) ∧ cb = .bool false ∧ ci = .int .i64 (i : Int)) (fun _ ci _ => m - (intOf ci).toNat)
                            case atStart => exact ⟨0, ⟨Nat.zero_le _, Below.refl _ _⟩, rfl, rfl⟩
                            case round =>
                              obtain ⟨i, ⟨hi, hbw⟩, rfl, rfl⟩ := hrel
                              have HBY : Hid (Below Wm.heap.size Wm wr) := hbw
                              clear hbw z0 z1 z2 z3 zf
                              by_cases hlt : i < m
                              · go_wp2
                                go_roundw
                                case rel => exact ⟨i + 1, ⟨hlt, HBY.out⟩, rfl, rfl⟩
                                case measure => simp [intOf]; omega
                              · go_wp2
                                go_returns
                                exact ⟨ClPost.mk HF.out, HBX.out.trans (HBY.out.mono HBS.out)⟩
                          case pos =>
                            subst h0n
                            by_cases hmm : (m : Int) ≤ 1048576
                            case neg =>
                              have hq3 : decide ((m : Int) ≤ 1048576) = false := decide_eq_false hmm
                              go_wp2
                              go_loopw [8, 9] (fun cb ci wr => ∃ i : Nat, (i ≤ m ∧ Below Wm.heap.size Wm wr) ∧ cb = .bool false ∧ ci = .int .i64 (i : Int)) (fun _ ci _ => m - (intOf ci).toNat)
                              case atStart => exact ⟨0, ⟨Nat.zero_le _, Below.refl _ _⟩, rfl, rfl⟩
                              case round =>
                                obtain ⟨i, ⟨hi, hbw⟩, rfl, rfl⟩ := hrel
                                have HBY : Hid (Below Wm.heap.size Wm wr) := hbw
                                clear hbw z0 z1 z2 z3 zf
                                by_cases hlt : i < m
                                · go_wp2
                                  go_roundw
                                  case rel => exact ⟨i + 1, ⟨hlt, HBY.out⟩, rfl, rfl⟩
                                  case measure => simp [intOf]; omega
                                · go_wp2
                                  go_returns
                                  exact ⟨ClPost.mk HF.out, HBX.out.trans (HBY.out.mono HBS.out)⟩
                            case pos =>
                              have hq3 : decide ((m : Int) ≤ 1048576) = true := decide_eq_true hmm
                              by_cases hDD : D ≤ 32
                              case neg =>
                                have hq4 : decide (D ≤ 32) = false := decide_eq_false hDD
                                go_wp2
                                go_loopw [8, 9] (fun cb ci wr => ∃ i : Nat, (i ≤ m ∧ Below Wm.heap.size Wm wr) ∧ cb = .bool false ∧ ci = .int .i64 (i : Int)) (fun _ ci _ => m - (intOf ci).toNat)
                                case atStart => exact ⟨0, ⟨Nat.zero_le _, Below.refl _ _⟩, rfl, rfl⟩
                                case round =>
                                  obtain ⟨i, ⟨hi, hbw⟩, rfl, rfl⟩ := hrel
                                  have HBY : Hid (Below Wm.heap.size Wm wr) := hbw
                                  clear hbw z0 z1 z2 z3 zf
                                  by_cases hlt : i < m
                                  · go_wp2
                                    go_roundw
                                    case rel => exact ⟨i + 1, ⟨hlt, HBY.out⟩, rfl, rfl⟩
                                    case measure => simp [intOf]; omega
                                  · go_wp2
                                    go_returns
                                    exact ⟨ClPost.mk HF.out, HBX.out.trans (HBY.out.mono HBS.out)⟩
                              case pos =>
                                have hq4 : decide (D ≤ 32) = true := decide_eq_true hDD
                                go_wp2
                                go_loopw [8, 9] (fun cb ci wr => ∃ (i : Nat) (ok : Bool), (i ≤ m ∧ (ok = true → ∀ X ∈ l.take i, C X) ∧ Below Wm.heap.size Wm wr) ∧ cb = .bool ok ∧ ci = .int .i64 (i : Int)) (fun _ ci _ => m - (intOf ci).toNat)
                                case atStart => exact ⟨0, true, ⟨Nat.zero_le _, (fun _ X hX => by simp at hX), Below.refl _ _⟩, rfl, rfl⟩
                                case round =>
                                  obtain ⟨i, ok, ⟨hi, hok, hbw⟩, rfl, rfl⟩ := hrel
                                  have HBY : Hid (Below Wm.heap.size Wm wr) := hbw
                                  have HOK : Hid (ok = true → ∀ X ∈ l.take i, C X) := hok
                                  have HBZ : Hid (Below b w wr) := HBX.out.trans (hbw.mono HBS.out)
                                  have HBU : Hid (Below W0.heap.size W0 wr) := HBW.out.trans (hbw.mono HBW.out.size)
                                  clear hbw hok z0 z1 z2 z3 zf
                                  obtain ⟨z0, z1, z2, z3, zf⟩ := prow4 (keep_row HR1.out HBU.out)
                                  by_cases hlt : i < m
                                  · cases ok
                                    · go_wp2
                                      go_roundw
                                      case rel => exact ⟨i + 1, false, ⟨hlt, (fun h => by cases h), HBY.out⟩, rfl, rfl⟩
                                      case measure => simp [intOf]; omega
                                    · have hix : i < l.length := by rw [HM.out]; exact hlt
                                      have hbx : Below w.heap.size w wr := HBB.out ▸ HBZ.out
                                      have hA2 : RpB Q k (RpL Q k wr) wr (.slice P1 m c1) l := HA.out.keep (fun g hg hl => ⟨hg, hbx.block g hl⟩) (fun v t h => h.on hbx)
                                      obtain ⟨g1, o1, l1, hP1, d0, d1, d2, d3, d4⟩ := hA2.cell i hix
                                      obtain ⟨X, hX⟩ : ∃ X, l[i] = X := ⟨_, rfl⟩
                                      have hxm : X ∈ l := by rw [← hX]; exact List.getElem_mem hix
                                      have HTK : Hid (C X → ∀ Y ∈ l.take (i + 1), C Y) := fun hc Y hY => by
                                        rw [List.take_add_one, List.getElem?_eq_getElem hix, List.mem_append] at hY
                                        rcases hY with hY | hY
                                        · exact HOK.out rfl Y hY
                                        · have : Y = l[i] := by simpa using hY
                                          rw [this, hX]; exact hc
                                      rw [hX] at d0 d1 d2 d4
                                      obtain ⟨LP1, lc1, hl1⟩ := d4.form
                                      subst hl1
                                      subst hP1
                                      have HCC : Hid (∀ W, Below wr.heap.size wr W → Calls Tryz.prog 9 #[.agg #[.int .i64 X.kind, .string (strB X.text), .int .i64 X.n, .slice LP1 X.list.length lc1], .int .i64 (D + 1)] W fun e w' => ClPost (fun bb => bb = true → C X) e ∧ Below W.heap.size W w') := fun W hW => HIH.out X hxm _ W hDD (d4.on hW)
                                      have hz0 : (0 : Int) ≤ (i : Int) := by omega
                                      have hz1 : (i : Int) < (m : Int) := by omega
                                      obtain ⟨XL, hXL⟩ : ∃ XL, X.list.length = XL := ⟨_, rfl⟩
                                      obtain ⟨XT, hXT⟩ : ∃ XT, strB X.text = XT := ⟨_, rfl⟩
                                      rw [hXL, hXT] at HCC
                                      rw [hXL] at d3
                                      rw [hXT] at d1
                                      clear hX hix hxm hA2 d4 hbx hXL hXT
                                      have HCD : Hid _ := HCC.out wr (Below.refl _ _)
                                      go_wp2_with fail
                                      refine (show Calls _ _ _ _ _ from HCD.out).mono ?_
                                      rintro e w2 ⟨⟨bb, rfl, hbb⟩, hbx⟩
                                      have HB2 : Hid (Below Wm.heap.size Wm w2) := HBY.out.trans (hbx.mono HBY.out.size)
                                      have HBC : Hid (bb = true → ∀ Y ∈ l.take (i + 1), C Y) := fun h => HTK.out (hbb h)
                                      clear hbx z0 z1 z2 z3 zf d0 d1 d2 d3 hbb
                                      cases bb
                                      · go_wp2
                                        go_roundw
                                        case rel => exact ⟨i + 1, false, ⟨hlt, (fun h => by cases h), HB2.out⟩, rfl, rfl⟩
                                        case measure => simp [intOf]; omega
                                      · have HBT : Hid (∀ Y ∈ l.take (i + 1), C Y) := HBC.out rfl
                                        clear HBC
                                        go_wp2
                                        go_roundw
                                        case rel => exact ⟨i + 1, true, ⟨hlt, (fun _ => HBT.out), HB2.out⟩, rfl, rfl⟩
                                        case measure => simp [intOf]; omega
                                  · have hin : i = m := by omega
                                    subst hin
                                    have HAL : Hid (ok = true → ∀ X ∈ l, C X) := fun h X hX => HOK.out h X (by rw [List.take_of_length_le (by rw [HM.out]; exact Nat.le_refl _)]; exact hX)
                                    cases ok
                                    · go_wp2
                                      go_returns
                                      exact ⟨ClPost.mk HF.out, HBZ.out⟩
                                    · have HAT : Hid (∀ X ∈ l, C X) := HAL.out rfl
                                      clear HAL
                                      go_wp2
                                      go_returns
                                      exact ⟨ClPost.mk (HT.out ⟨Or.inr (Or.inr (Or.inr (Or.inr (Or.inr (Or.inl ⟨Or.inr (Or.inl rfl), HE.out, rfl, by omega⟩))))), by decide, fun _ => hDD⟩ HAT.out), HBZ.out⟩
                      case neg =>
                        have hf7 : (kd == 7) = false := by simpa using hk7
                        by_cases hk8 : kd = 8
                        case pos =>
                          subst hk8
                          by_cases h0s : s.size = 0
                          case neg =>
                            have hq1 : s.toList.isEmpty = false := full_str s (by omega)
                            go_wp2
                            go_loopw [8, 9] (fun cb ci wr => ∃ i : Nat, (i ≤ m ∧ Below Wm.heap.size Wm wr) ∧ cb = .bool false ∧ ci = .int .i64 (i : Int)) (fun _ ci _ => m - (intOf ci).toNat)
                            case atStart => exact ⟨0, ⟨Nat.zero_le _, Below.refl _ _⟩, rfl, rfl⟩
                            case round =>
                              obtain ⟨i, ⟨hi, hbw⟩, rfl, rfl⟩ := hrel
                              have HBY : Hid (Below Wm.heap.size Wm wr) := hbw
                              clear hbw z0 z1 z2 z3 zf
                              by_cases hlt : i < m
                              · go_wp2
                                go_roundw
                                case rel => exact ⟨i + 1, ⟨hlt, HBY.out⟩, rfl, rfl⟩
                                case measure => simp [intOf]; omega
                              · go_wp2
                                go_returns
                                exact ⟨ClPost.mk HF.out, HBX.out.trans (HBY.out.mono HBS.out)⟩
                          case pos =>
                            have hq1 : s.toList.isEmpty = true := str_empty h0s
                            have HE : Hid (s.data.toList = []) := HTX.out h0s
                            clear h0s
                            by_cases h0n : n = 0
                            case neg =>
                              have hq2 : (n == 0) = false := by simpa using h0n
                              go_wp2
                              go_loopw [8, 9] (fun cb ci wr => ∃ i : Nat, (i ≤ m ∧ Below Wm.heap.size Wm wr) ∧ cb = .bool false ∧ ci = .int .i64 (i : Int)) (fun _ ci _ => m - (intOf ci).toNat)
                              case atStart => exact ⟨0, ⟨Nat.zero_le _, Below.refl _ _⟩, rfl, rfl⟩
                              case round =>
                                obtain ⟨i, ⟨hi, hbw⟩, rfl, rfl⟩ := hrel
                                have HBY : Hid (Below Wm.heap.size Wm wr) := hbw
                                clear hbw z0 z1 z2 z3 zf
                                by_cases hlt : i < m
                                · go_wp2
                                  go_roundw
                                  case rel => exact ⟨i + 1, ⟨hlt, HBY.out⟩, rfl, rfl⟩
                                  case measure => simp [intOf]; omega
                                · go_wp2
                                  go_returns
                                  exact ⟨ClPost.mk HF.out, HBX.out.trans (HBY.out.mono HBS.out)⟩
                            case pos =>
                              subst h0n
                              by_cases hmm : (m : Int) ≤ 1048576
                              case neg =>
                                have hq3 : decide ((m : Int) ≤ 1048576) = false := decide_eq_false hmm
                                go_wp2
                                go_loopw [8, 9] (fun cb ci wr => ∃ i : Nat, (i ≤ m ∧ Below Wm.heap.size Wm wr) ∧ cb = .bool false ∧ ci = .int .i64 (i : Int)) (fun _ ci _ => m - (intOf ci).toNat)
                                case atStart => exact ⟨0, ⟨Nat.zero_le _, Below.refl _ _⟩, rfl, rfl⟩
                                case round =>
                                  obtain ⟨i, ⟨hi, hbw⟩, rfl, rfl⟩ := hrel
                                  have HBY : Hid (Below Wm.heap.size Wm wr) := hbw
                                  clear hbw z0 z1 z2 z3 zf
                                  by_cases hlt : i < m
                                  · go_wp2
                                    go_roundw
                                    case rel => exact ⟨i + 1, ⟨hlt, HBY.out⟩, rfl, rfl⟩
                                    case measure => simp [intOf]; omega
                                  · go_wp2
                                    go_returns
                                    exact ⟨ClPost.mk HF.out, HBX.out.trans (HBY.out.mono HBS.out)⟩
                              case pos =>
                                have hq3 : decide ((m : Int) ≤ 1048576) = true := decide_eq_true hmm
                                by_cases hDD : D ≤ 32
                                case neg =>
                                  have hq4 : decide (D ≤ 32) = false := decide_eq_false hDD
                                  go_wp2
                                  go_loopw [8, 9] (fun cb ci wr => ∃ i : Nat, (i ≤ m ∧ Below Wm.heap.size Wm wr) ∧ cb = .bool false ∧ ci = .int .i64 (i : Int)) (fun _ ci _ => m - (intOf ci).toNat)
                                  case atStart => exact ⟨0, ⟨Nat.zero_le _, Below.refl _ _⟩, rfl, rfl⟩
                                  case round =>
                                    obtain ⟨i, ⟨hi, hbw⟩, rfl, rfl⟩ := hrel
                                    have HBY : Hid (Below Wm.heap.size Wm wr) := hbw
                                    clear hbw z0 z1 z2 z3 zf
                                    by_cases hlt : i < m
                                    · go_wp2
                                      go_roundw
                                      case rel => exact ⟨i + 1, ⟨hlt, HBY.out⟩, rfl, rfl⟩
                                      case measure => simp [intOf]; omega
                                    · go_wp2
                                      go_returns
                                      exact ⟨ClPost.mk HF.out, HBX.out.trans (HBY.out.mono HBS.out)⟩
                                case pos =>
                                  have hq4 : decide (D ≤ 32) = true := decide_eq_true hDD
                                  go_wp2
                                  go_loopw [8, 9] (fun cb ci wr => ∃ (i : Nat) (ok : Bool), (i ≤ m ∧ (ok = true → ∀ X ∈ l.take i, C X) ∧ Below Wm.heap.size Wm wr) ∧ cb = .bool ok ∧ ci = .int .i64 (i : Int)) (fun _ ci _ => m - (intOf ci).toNat)
                                  case atStart => exact ⟨0, true, ⟨Nat.zero_le _, (fun _ X hX => by simp at hX), Below.refl _ _⟩, rfl, rfl⟩
                                  case round =>
                                    obtain ⟨i, ok, ⟨hi, hok, hbw⟩, rfl, rfl⟩ := hrel
                                    have HBY : Hid (Below Wm.heap.size Wm wr) := hbw
                                    have HOK : Hid (ok = true → ∀ X ∈ l.take i, C X) := hok
                                    have HBZ : Hid (Below b w wr) := HBX.out.trans (hbw.mono HBS.out)
                                    have HBU : Hid (Below W0.heap.size W0 wr) := HBW.out.trans (hbw.mono HBW.out.size)
                                    clear hbw hok z0 z1 z2 z3 zf
                                    obtain ⟨z0, z1, z2, z3, zf⟩ := prow4 (keep_row HR1.out HBU.out)
                                    by_cases hlt : i < m
                                    · cases ok
                                      · go_wp2
                                        go_roundw
                                        case rel => exact ⟨i + 1, false, ⟨hlt, (fun h => by cases h), HBY.out⟩, rfl, rfl⟩
                                        case measure => simp [intOf]; omega
                                      · have hix : i < l.length := by rw [HM.out]; exact hlt
                                        have hbx : Below w.heap.size w wr := HBB.out ▸ HBZ.out
                                        have hA2 : RpB Q k (RpL Q k wr) wr (.slice P1 m c1) l := HA.out.keep (fun g hg hl => ⟨hg, hbx.block g hl⟩) (fun v t h => h.on hbx)
                                        obtain ⟨g1, o1, l1, hP1, d0, d1, d2, d3, d4⟩ := hA2.cell i hix
                                        obtain ⟨X, hX⟩ : ∃ X, l[i] = X := ⟨_, rfl⟩
                                        have hxm : X ∈ l := by rw [← hX]; exact List.getElem_mem hix
                                        have HTK : Hid (C X → ∀ Y ∈ l.take (i + 1), C Y) := fun hc Y hY => by
                                          rw [List.take_add_one, List.getElem?_eq_getElem hix, List.mem_append] at hY
                                          rcases hY with hY | hY
                                          · exact HOK.out rfl Y hY
                                          · have : Y = l[i] := by simpa using hY
                                            rw [this, hX]; exact hc
                                        rw [hX] at d0 d1 d2 d4
                                        obtain ⟨LP1, lc1, hl1⟩ := d4.form
                                        subst hl1
                                        subst hP1
                                        have HCC : Hid (∀ W, Below wr.heap.size wr W → Calls Tryz.prog 9 #[.agg #[.int .i64 X.kind, .string (strB X.text), .int .i64 X.n, .slice LP1 X.list.length lc1], .int .i64 (D + 1)] W fun e w' => ClPost (fun bb => bb = true → C X) e ∧ Below W.heap.size W w') := fun W hW => HIH.out X hxm _ W hDD (d4.on hW)
                                        have hz0 : (0 : Int) ≤ (i : Int) := by omega
                                        have hz1 : (i : Int) < (m : Int) := by omega
                                        obtain ⟨XL, hXL⟩ : ∃ XL, X.list.length = XL := ⟨_, rfl⟩
                                        obtain ⟨XT, hXT⟩ : ∃ XT, strB X.text = XT := ⟨_, rfl⟩
                                        rw [hXL, hXT] at HCC
                                        rw [hXL] at d3
                                        rw [hXT] at d1
                                        clear hX hix hxm hA2 d4 hbx hXL hXT
                                        have HCD : Hid _ := HCC.out wr (Below.refl _ _)
                                        go_wp2_with fail
                                        refine (show Calls _ _ _ _ _ from HCD.out).mono ?_
                                        rintro e w2 ⟨⟨bb, rfl, hbb⟩, hbx⟩
                                        have HB2 : Hid (Below Wm.heap.size Wm w2) := HBY.out.trans (hbx.mono HBY.out.size)
                                        have HBC : Hid (bb = true → ∀ Y ∈ l.take (i + 1), C Y) := fun h => HTK.out (hbb h)
                                        clear hbx z0 z1 z2 z3 zf d0 d1 d2 d3 hbb
                                        cases bb
                                        · go_wp2
                                          go_roundw
                                          case rel => exact ⟨i + 1, false, ⟨hlt, (fun h => by cases h), HB2.out⟩, rfl, rfl⟩
                                          case measure => simp [intOf]; omega
                                        · have HBT : Hid (∀ Y ∈ l.take (i + 1), C Y) := HBC.out rfl
                                          clear HBC
                                          go_wp2
                                          go_roundw
                                          case rel => exact ⟨i + 1, true, ⟨hlt, (fun _ => HBT.out), HB2.out⟩, rfl, rfl⟩
                                          case measure => simp [intOf]; omega
                                    · have hin : i = m := by omega
                                      subst hin
                                      have HAL : Hid (ok = true → ∀ X ∈ l, C X) := fun h X hX => HOK.out h X (by rw [List.take_of_length_le (by rw [HM.out]; exact Nat.le_refl _)]; exact hX)
                                      cases ok
                                      · go_wp2
                                        go_returns
                                        exact ⟨ClPost.mk HF.out, HBZ.out⟩
                                      · have HAT : Hid (∀ X ∈ l, C X) := HAL.out rfl
                                        clear HAL
                                        go_wp2
                                        go_returns
                                        exact ⟨ClPost.mk (HT.out ⟨Or.inr (Or.inr (Or.inr (Or.inr (Or.inr (Or.inl ⟨Or.inr (Or.inr rfl), HE.out, rfl, by omega⟩))))), by decide, fun _ => hDD⟩ HAT.out), HBZ.out⟩
                        case neg =>
                          have hf8 : (kd == 8) = false := by simpa using hk8
                          go_wp2
                          go_returns
                          exact ⟨ClPost.mk HF.out, HBX.out⟩
theorem clean_any : ∀ (k : Nat) (t : Rn (Rp k)) (Q : Nat → Prop) (v : Value) (D : Int) (w : World), bz k t ≤ 67108864 → Rg k t → 1 ≤ D → D ≤ 33 → RpL Q k w v t.list →
    Calls Tryz.prog 9 #[.agg #[.int .i64 t.kind, .string (strB t.text), .int .i64 t.n, v], .int .i64 D] w fun e w' => ClPost (fun bb => bb = true → Cl k D t) e ∧ Below w.heap.size w w'
  | 0, t, Q, v, D, w, hb, hr, h0, h1, hA => by
    obtain ⟨P1, c1, rfl⟩ := hA
    have hl := bz_pos 0 t
    refine (clean_one 0 t.kind t.n D (strB t.text) Q _ [] w (fun _ => True) (by simp) (by rw [strB_size]; omega) h0 h1 hr.1 hr.2 ⟨P1, c1, rfl, fun i h => absurd h (Nat.not_lt_zero i)⟩ (fun X hX => by cases hX)).mono ?_
    rintro e w' ⟨⟨bb, he, hbb⟩, hB⟩
    rw [strB_list] at hbb
    exact ⟨⟨bb, he, fun h => (hbb h).1⟩, hB⟩
  | k + 1, t, Q, v, D, w, hb, hr, h0, h1, hA => by
    have hl := bz_len k t
    have h9 : List.length t.list ≤ 1073741824 := by omega
    refine (clean_one k t.kind t.n D (strB t.text) Q v t.list w (Cl k (D + 1)) h9 (by rw [strB_size]; omega) h0 h1 hr.1.1 hr.1.2 hA (fun X hX v W hD h => clean_any k X Q v (D + 1) W (Nat.le_trans (bz_mem k t X hX) hb) (hr.2 X hX) (by omega) (by omega) h)).mono ?_
    rintro e w' ⟨⟨bb, he, hbb⟩, hB⟩
    rw [strB_list] at hbb
    exact ⟨⟨bb, he, fun h => hbb h⟩, hB⟩
end Go.Proofs.YtgiicfgekicfcaaGreatDoor
