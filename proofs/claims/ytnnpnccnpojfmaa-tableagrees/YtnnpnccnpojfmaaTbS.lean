import Derived.Test.YtnnpnccnpojfmaaTbJ
namespace Go.Proofs.Ytnnpnccnpojfmaa
open Go.RowKit
set_option linter.unusedVariables false
set_option linter.unusedSimpArgs false
namespace TB
def shw1 (b : UInt8) : UInt8 := if b.toNat < 32 ∨ 126 < b.toNat ∨ b.toNat = 39 then 63 else b
def shown (l : List UInt8) : List UInt8 := (l.take 128).map shw1
abbrev t1 : ByteArray := ⟨#[69, 82, 82, 32, 117, 110, 107, 110, 111, 119, 110, 32, 99, 111, 109, 109, 97, 110, 100, 32, 39]⟩
abbrev t2 : ByteArray := ⟨#[39]⟩
abbrev t3 : ByteArray := ⟨#[69, 82, 82, 32, 119, 114, 111, 110, 103, 32, 110, 117, 109, 98, 101, 114, 32, 111, 102, 32, 97, 114, 103, 117, 109, 101, 110, 116, 115, 32, 102, 111, 114, 32, 39]⟩
abbrev t4 : ByteArray := ⟨#[39, 32, 99, 111, 109, 109, 97, 110, 100]⟩
/-- what Trouble tells. -/
def trouble (args : List ByteArray) : ByteArray := if err args = 130 then t1 ++ strB (shown (name0 args).data.toList) ++ t2 else if err args = 131 then t3 ++ nmO (row args) ++ t4 else ⟨#[]⟩
end TB
theorem shw_of {c : UInt8} (h : c.toNat < 32 ∨ 126 < c.toNat ∨ c.toNat = 39) : TB.shw1 c = 63 := by unfold TB.shw1; rw [if_pos h]
theorem shw_not {c : UInt8} (h : ¬ (c.toNat < 32 ∨ 126 < c.toNat ∨ c.toNat = 39)) : TB.shw1 c = c := by unfold TB.shw1; rw [if_neg h]
set_option maxHeartbeats 2000000 in
set_option maxRecDepth 20000 in
theorem shown_any (a : ByteArray) (hm : a.size ≤ 140737488355328) (w : World) :
    Calls Try.prog 29 #[.string a] w fun e w' => e = .returned (.string (strB (TB.shown a.data.toList))) ∧ Below w.heap.size w w' := by
  obtain ⟨m, hmm⟩ : ∃ m, Nat.min a.size 128 = m := ⟨_, rfl⟩
  have hmin : min (a.size : Int) 128 = (m : Int) := by
    have : m = min a.size 128 := hmm.symm
    omega
  have hma : m ≤ a.size := by have : m = min a.size 128 := hmm.symm; omega
  have HM8 : Hid (m ≤ 128) := by have : m = min a.size 128 := hmm.symm; show _ ≤ _; omega
  obtain ⟨s, hs⟩ : ∃ s, a.extract 0 m = s := ⟨_, rfl⟩
  have HSL : Hid (s.data.toList.map TB.shw1 = TB.shown a.data.toList) := by
    show _ = _
    rw [← hs, ext_any]
    unfold TB.shown
    congr 1
    rw [List.drop_zero, Nat.sub_zero]
    rw [List.take_eq_take_iff, list_len]
    have : m = min a.size 128 := hmm.symm
    omega
  have hss : s.size = m := by rw [← hs, ext_size _ _ _ hma]; omega
  rw [← HSL.out]
  have hm : s.size ≤ 140737488355328 := by omega
  have hcv := run_bytes_of_string (P := Try.prog) w 9 48 5 s Try.underlying9 Try.underlying48 Try.underlying5
  have HS : Hid _ := FoldR.start TB.shw1 w s
  obtain ⟨N, hN⟩ : ∃ N, (bytesRow s (grownCap w s.size 0 5)).size = N := ⟨_, rfl⟩
  rw [hN] at HS hcv
  clear hss hmm
  go_enter Try.func29, Try.ntmps29
  go_wp2
  go_loopw [4, 5, 14] (fun _ _ i wr => ∃ k : Nat, i = .int .i64 (k : Int) ∧ k ≤ s.size ∧ FoldR TB.shw1 w wr s k N) (fun _ _ i _ => s.size - (intOf i).toNat)
  case atStart => exact ⟨0, rfl, Nat.zero_le _, HS.out⟩
  case round =>
    obtain ⟨k, rfl, hk, hR⟩ := hrel
    have HR : Hid (FoldR TB.shw1 w wr s k N) := hR
    clear hcv
    by_cases hlt : k < s.size
    · have hc := hR.cell k hlt
      have hf := hR.free k hlt
      rw [mid_k] at hc
      clear hR
      obtain ⟨b, hb⟩ : ∃ b, s.data.toList.getD k 0 = b := ⟨_, rfl⟩
      have hb8 := b.toNat_lt
      rw [hb] at hc
      obtain ⟨c, ec⟩ : ∃ c, b.toNat = c := ⟨_, rfl⟩
      rw [ec] at hc hb8
      have HSET : Hid ((c < 32 ∨ 126 < c ∨ c = 39) → FoldR TB.shw1 w (wr.setCell ⟨w.heap.size, k, none⟩ (.int .u8 63)) s (k + 1) N) := fun h => HR.out.set hlt _ (by rw [hb, shw_of (by rw [ec]; exact h)]; rfl)
      have HSAM : Hid (¬ (c < 32 ∨ 126 < c ∨ c = 39) → FoldR TB.shw1 w wr s (k + 1) N) := fun h => HR.out.same (by rw [hb]; exact shw_not (by rw [ec]; exact h))
      clear hb ec
      by_cases h1 : c < 32
      · go_wp2
        go_roundw
        case rel => exact ⟨k + 1, by go_num, hlt, HSET.out (Or.inl h1)⟩
        case measure => simp [intOf]; omega
      · by_cases h2 : 126 < c
        · go_wp2
          go_roundw
          case rel => exact ⟨k + 1, by go_num, hlt, HSET.out (Or.inr (Or.inl h2))⟩
          case measure => simp [intOf]; omega
        · by_cases h3 : c = 39
          · have HX : Hid _ := HSET.out (Or.inr (Or.inr h3))
            subst h3
            go_wp2
            go_roundw
            case rel => exact ⟨k + 1, by go_num, hlt, HX.out⟩
            case measure => simp [intOf]; omega
          · have h4 : ((c : Int) == 39) = false := by simp; omega
            go_wp2
            go_roundw
            case rel => exact ⟨k + 1, by go_num, hlt, HSAM.out (by omega)⟩
            case measure => simp [intOf]; omega
    · have hke : k = s.size := by omega
      subst hke
      have hbk := hR.back (grownCap w s.size 0 5)
      clear hR
      go_wp2
      go_ret
      exact ⟨rfl, HR.out.bel⟩
theorem shown_len (l : List UInt8) : (TB.shown l).length ≤ 128 := by unfold TB.shown; rw [List.length_map, List.length_take]; omega
set_option maxHeartbeats 2000000 in
set_option maxRecDepth 20000 in
theorem trouble_any (args : List ByteArray) (va : Value) (hl : args.length ≤ 70368744177664) (h0 : (TB.name0 args).size ≤ 140737488351232) (w : World) (hA : SRow w va args) : Calls Try.prog 15 #[va] w fun e w' => e = .returned (.string (TB.trouble args)) ∧ Below w.heap.size w w' := by
  have HC : Hid _ := command_any args va hl h0 w hA
  have HN : Hid (∀ W, Below w.heap.size w W → Calls Try.prog 30 #[va] W fun e w' => e = .returned (.string (TB.name0 args)) ∧ w' = W) := fun W hb => nameOf_any args va W (hA.on hb)
  have HSH : Hid _ := shown_any (TB.name0 args) (by omega)
  obtain ⟨P, c, rfl⟩ := hA.form
  obtain ⟨x0, x1, x2, x3, x4, x5, x6, x7, x8, x9, hsp, e0, e1, e2, e6, e7, e8, e9⟩ := TB.spec_form (TB.row args)
  rw [hsp] at HC
  have HX0 : Hid (x0 = TB.nmO (TB.row args)) := e0
  have HX0S : Hid (x0.size ≤ 16) := by
    show _ ≤ _
    rw [e0]
    cases h : TB.row args with
    | none => exact Nat.zero_le _
    | some r => exact (TB.wf_parts (TB.wf_at (TB.find_mem h).1)).2.1
  obtain ⟨er, her⟩ : ∃ er, TB.err args = er := ⟨_, rfl⟩
  have HER : Hid (TB.err args = er) := her
  rw [her] at HC
  obtain ⟨sh, hsh⟩ : ∃ sh, strB (TB.shown (TB.name0 args).data.toList) = sh := ⟨_, rfl⟩
  have HSHE : Hid (strB (TB.shown (TB.name0 args).data.toList) = sh) := hsh
  have hshs : sh.size ≤ 128 := by rw [← hsh, strB_size]; exact shown_len _
  rw [hsh] at HSH
  have hx0s := HX0S.out
  clear hA h0 hsp e0 e1 e2 e6 e7 e8 e9 her hsh
  have HBW : Hid (∀ {w1 : World} {o : Obj}, Below w.heap.size w w1 → Below w.heap.size w (w1.alloc o)) := fun h => bel_to h ((Below.refl _ _).alloc (Nat.le_refl _) _) (Nat.le_refl _)
  by_cases h130 : er = 130
  · subst h130
    have HT : Hid (TB.trouble args = TB.t1 ++ sh ++ TB.t2) := by show _ = _; unfold TB.trouble; rw [if_pos HER.out, HSHE.out]
    rw [HT.out]
    go_enter Try.func15, Try.ntmps15
    go_wp2_with fail
    refine (show Calls _ _ _ _ _ from HC.out).mono ?_
    rintro e w1 ⟨rfl, hb1⟩
    have HB1 : Hid (Below w.heap.size w w1) := hb1
    clear hb1
    go_wp2_with fail
    refine (show Calls _ _ _ _ _ from HN.out _ (HBW.out HB1.out)).mono ?_
    rintro e w2 ⟨rfl, hw2⟩
    have HB2 : Hid (Below w.heap.size w w2) := by rw [hw2]; exact HBW.out HB1.out
    clear hw2
    go_wp2_with fail
    refine (show Calls _ _ _ _ _ from HSH.out _).mono ?_
    rintro e w3 ⟨rfl, hb3⟩
    have HB3 : Hid (Below w.heap.size w w3) := bel_to HB2.out hb3 (Nat.le_refl _)
    clear hb3
    go_wp2
    go_returns
    exact ⟨rfl, HB3.out⟩
  · have q1 : (er == 130) = false := by simpa using h130
    by_cases h131 : er = 131
    · subst h131
      have HT : Hid (TB.trouble args = TB.t3 ++ x0 ++ TB.t4) := by show _ = _; unfold TB.trouble; rw [if_neg (by rw [HER.out]; exact h130), if_pos HER.out, HX0.out]
      rw [HT.out]
      go_enter Try.func15, Try.ntmps15
      go_wp2_with fail
      refine (show Calls _ _ _ _ _ from HC.out).mono ?_
      rintro e w1 ⟨rfl, hb1⟩
      have HB1 : Hid (Below w.heap.size w w1) := hb1
      clear hb1
      go_wp2
      go_returns
      exact ⟨rfl, HBW.out HB1.out⟩
    · have q2 : (er == 131) = false := by simpa using h131
      have HT : Hid (TB.trouble args = ⟨#[]⟩) := by show _ = _; unfold TB.trouble; rw [if_neg (by rw [HER.out]; exact h130), if_neg (by rw [HER.out]; exact h131)]
      rw [HT.out]
      go_enter Try.func15, Try.ntmps15
      go_wp2_with fail
      refine (show Calls _ _ _ _ _ from HC.out).mono ?_
      rintro e w1 ⟨rfl, hb1⟩
      have HB1 : Hid (Below w.heap.size w w1) := hb1
      clear hb1
      go_wp2
      go_returns
      exact ⟨rfl, HBW.out HB1.out⟩
end Go.Proofs.Ytnnpnccnpojfmaa
