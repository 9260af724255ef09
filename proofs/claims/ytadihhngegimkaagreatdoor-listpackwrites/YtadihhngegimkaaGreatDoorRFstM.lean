import Derived.Test.YtadihhngegimkaaGreatDoorLeaf3
import Derived.Test.YtadihhngegimkaaGreatDoorLMath
import Derived.Test.YtadihhngegimkaaGreatDoorRNm
import Derived.Test.YtadihhngegimkaaGreatDoorLQ
namespace Go.Proofs.YtadihhngegimkaaGreatDoor
open Go.RowKit
set_option linter.unusedVariables false
theorem w64_step (x b : Nat) : wrap64 (wrap64 ((wrap64 (x : Int)) * 256) + (b : Int)) = wrap64 ((x * 256 + b : Nat) : Int) := by
  have : ((x * 256 + b : Nat) : Int) = (x : Int) * 256 + b := by simp
  rw [this]; unfold wrap64; omega
theorem leN_drop (l : List UInt8) (i : Nat) (h : i < l.length) : LM.leN (l.drop i) = LM.leN (l.drop (i + 1)) * 256 + l[i].toNat := by
  rw [List.drop_eq_getElem_cons h]; simp only [LM.leN]; omega
set_option maxHeartbeats 2000000 in
set_option maxRecDepth 100000 in
theorem rsg_any (s : ByteArray) (h1 : 1 ≤ s.size) (h8 : s.size ≤ 8) (w : World) : Calls Tryz.prog 51 #[.string s] w fun e w' => e = .returned (.int .i64 (LM.sg s.size (LM.leN s.data.toList))) ∧ w' = w := by
  have HLT : Hid (LM.leN s.data.toList < 256 ^ s.size) := by have := LM.leN_lt s.data.toList; rwa [list_len] at this
  go_enter Tryz.func51, Tryz.ntmps51
  obtain ⟨L, hL⟩ : ∃ L, LM.leN s.data.toList = L := ⟨_, rfl⟩
  rw [hL] at HLT ⊢
  have HLL : Hid _ := hL
  clear hL
  go_wp2
  go_loopw [3, 4] (fun nv iv wr => wr = w ∧ ((iv = .int .i64 (-1) ∧ nv = .int .i64 (wrap64 (L : Int))) ∨ ∃ j : Nat, j < s.size ∧ iv = .int .i64 (j : Int) ∧ nv = .int .i64 (wrap64 (LM.leN (s.data.toList.drop (j + 1)) : Nat)))) (fun _ iv _ => (intOf iv + 1).toNat)
  case atStart =>
    refine ⟨rfl, Or.inr ⟨s.size - 1, by omega, by congr 1; omega, ?_⟩⟩
    rw [show s.size - 1 + 1 = s.size by omega, List.drop_eq_nil_of_le (by rw [list_len]; omega)]; simp [LM.leN, wrap64]
  case round =>
    obtain ⟨rfl, ⟨rfl, rfl⟩ | ⟨j, hj, rfl, rfl⟩⟩ := hrel
    · by_cases h7 : s.size = 8
      · have hd : decide ((s.size : Int) < 8) = false := by simp; omega
        have HR : Hid (LM.sg s.size L = wrap64 (L : Int)) := by
          have := HLT.out
          rw [h7] at this
          show _ = _; rw [h7]; unfold LM.sg wrap64; simp only [Nat.reducePow] at this ⊢; split <;> omega
        go_wp2
        go_ret
        refine ⟨?_, rfl⟩
        show Ending.returned (.int .i64 (wrap64 (L : Int))) = _
        rw [HR.out]
      · have hd : decide ((s.size : Int) < 8) = true := by simp; omega
        have hlt := HLT.out
        obtain ⟨k, hk⟩ : ∃ k, s.size = k := ⟨_, rfl⟩
        rw [hk] at hlt h1 h8 h7 hd ⊢
        rcases (show k = 1 ∨ k = 2 ∨ k = 3 ∨ k = 4 ∨ k = 5 ∨ k = 6 ∨ k = 7 by omega) with rfl | rfl | rfl | rfl | rfl | rfl | rfl
        · simp only [Nat.reducePow] at hlt
          have hw : wrap64 (L : Int) = (L : Int) := by unfold wrap64; omega
          have HLT2 : Hid _ := hlt
          have HWW : Hid _ := hw
          have HK : Hid _ := hk
          clear hw hlt hd h1 h8 h7 HLT
          generalize wrap64 (L : Int) = LL at HWW ⊢
          go_wp2_with fail
          all_goals
            go_ret
            refine ⟨?_, rfl⟩
            refine congrArg Ending.returned (congrArg (Value.int .i64) ?_)
            have e := HWW.out
            have l2 := HLT2.out
            rw [HK.out]
            unfold LM.sg
            try unfold wrap64
            simp only [Nat.reducePow]
            split <;> omega
        · simp only [Nat.reducePow] at hlt
          have hw : wrap64 (L : Int) = (L : Int) := by unfold wrap64; omega
          have HLT2 : Hid _ := hlt
          have HWW : Hid _ := hw
          have HK : Hid _ := hk
          clear hw hlt hd h1 h8 h7 HLT
          generalize wrap64 (L : Int) = LL at HWW ⊢
          go_wp2_with fail
          all_goals
            go_ret
            refine ⟨?_, rfl⟩
            refine congrArg Ending.returned (congrArg (Value.int .i64) ?_)
            have e := HWW.out
            have l2 := HLT2.out
            rw [HK.out]
            unfold LM.sg
            try unfold wrap64
            simp only [Nat.reducePow]
            split <;> omega
        · simp only [Nat.reducePow] at hlt
          have hw : wrap64 (L : Int) = (L : Int) := by unfold wrap64; omega
          have HLT2 : Hid _ := hlt
          have HWW : Hid _ := hw
          have HK : Hid _ := hk
          clear hw hlt hd h1 h8 h7 HLT
          generalize wrap64 (L : Int) = LL at HWW ⊢
          go_wp2_with fail
          all_goals
            go_ret
            refine ⟨?_, rfl⟩
            refine congrArg Ending.returned (congrArg (Value.int .i64) ?_)
            have e := HWW.out
            have l2 := HLT2.out
            rw [HK.out]
            unfold LM.sg
            try unfold wrap64
            simp only [Nat.reducePow]
            split <;> omega
        · simp only [Nat.reducePow] at hlt
          have hw : wrap64 (L : Int) = (L : Int) := by unfold wrap64; omega
          have HLT2 : Hid _ := hlt
          have HWW : Hid _ := hw
          have HK : Hid _ := hk
          clear hw hlt hd h1 h8 h7 HLT
          generalize wrap64 (L : Int) = LL at HWW ⊢
          go_wp2_with fail
          all_goals
            go_ret
            refine ⟨?_, rfl⟩
            refine congrArg Ending.returned (congrArg (Value.int .i64) ?_)
            have e := HWW.out
            have l2 := HLT2.out
            rw [HK.out]
            unfold LM.sg
            try unfold wrap64
            simp only [Nat.reducePow]
            split <;> omega
        · simp only [Nat.reducePow] at hlt
          have hw : wrap64 (L : Int) = (L : Int) := by unfold wrap64; omega
          have HLT2 : Hid _ := hlt
          have HWW : Hid _ := hw
          have HK : Hid _ := hk
          clear hw hlt hd h1 h8 h7 HLT
          generalize wrap64 (L : Int) = LL at HWW ⊢
          go_wp2_with fail
          all_goals
            go_ret
            refine ⟨?_, rfl⟩
            refine congrArg Ending.returned (congrArg (Value.int .i64) ?_)
            have e := HWW.out
            have l2 := HLT2.out
            rw [HK.out]
            unfold LM.sg
            try unfold wrap64
            simp only [Nat.reducePow]
            split <;> omega
        · simp only [Nat.reducePow] at hlt
          have hw : wrap64 (L : Int) = (L : Int) := by unfold wrap64; omega
          have HLT2 : Hid _ := hlt
          have HWW : Hid _ := hw
          have HK : Hid _ := hk
          clear hw hlt hd h1 h8 h7 HLT
          generalize wrap64 (L : Int) = LL at HWW ⊢
          go_wp2_with fail
          all_goals
            go_ret
            refine ⟨?_, rfl⟩
            refine congrArg Ending.returned (congrArg (Value.int .i64) ?_)
            have e := HWW.out
            have l2 := HLT2.out
            rw [HK.out]
            unfold LM.sg
            try unfold wrap64
            simp only [Nat.reducePow]
            split <;> omega
        · simp only [Nat.reducePow] at hlt
          have hw : wrap64 (L : Int) = (L : Int) := by unfold wrap64; omega
          have HLT2 : Hid _ := hlt
          have HWW : Hid _ := hw
          have HK : Hid _ := hk
          clear hw hlt hd h1 h8 h7 HLT
          generalize wrap64 (L : Int) = LL at HWW ⊢
          go_wp2_with fail
          all_goals
            go_ret
            refine ⟨?_, rfl⟩
            refine congrArg Ending.returned (congrArg (Value.int .i64) ?_)
            have e := HWW.out
            have l2 := HLT2.out
            rw [HK.out]
            unfold LM.sg
            try unfold wrap64
            simp only [Nat.reducePow]
            split <;> omega
    · have hb : s.data.toList[j]? = some s[j] := at_list s j hj
      have hln := leN_drop s.data.toList j (by rw [list_len]; exact hj)
      have hbe : s.data.toList[j]'(by rw [list_len]; exact hj) = s[j] := by
        have := List.getElem?_eq_getElem (l := s.data.toList) (i := j) (by rw [list_len]; exact hj)
        rw [hb] at this; exact (Option.some.inj this).symm
      rw [hbe] at hln
      obtain ⟨c, hc⟩ : ∃ c : Nat, s[j].toNat = c := ⟨_, rfl⟩
      rw [hc] at hln
      have hc8 : c < 256 := by rw [← hc]; exact s[j].toNat_lt
      generalize LM.leN (s.data.toList.drop (j + 1)) = X at hln ⊢
      have HST : Hid _ := w64_step X c
      have HLN : Hid _ := hln
      have hz0 : (0 : Int) ≤ (j : Int) := by omega
      have hz1 : (j : Int) < (s.size : Int) := by omega
      clear hln hbe hb
      go_wp2
      refine ⟨⟨by trivial, ?_⟩, by simp [intOf]⟩
      by_cases h0 : j = 0
      · subst h0
        refine Or.inl ⟨rfl, ?_⟩
        rw [HST.out, ← HLN.out, List.drop_zero, HLL.out]
      · refine Or.inr ⟨j - 1, by omega, by congr 1; omega, ?_⟩
        rw [show j - 1 + 1 = j by omega, HST.out, HLN.out]
end Go.Proofs.YtadihhngegimkaaGreatDoor
namespace Go.Proofs.YtadihhngegimkaaGreatDoor
open Go.RowKit
set_option linter.unusedVariables false
theorem leN_zero (l : List UInt8) : LM.leN (l ++ [0]) = LM.leN l := by rw [LM.leN_app]; simp [LM.leN]
/-- a text's head. -/
def szT (l : List UInt8) : Int × Int :=
  let f := (l.getD 0 0).toNat
  if 128 ≤ f ∧ f < 192 then (1, (f : Int) - 128)
  else if 224 ≤ f ∧ f < 240 ∧ 2 ≤ l.length then (2, ((f : Int) - 224) * 256 + ((l.getD 1 0).toNat : Int))
  else if f = 240 ∧ 5 ≤ l.length then (5, (LM.leN ((l.drop 1).take 4) : Nat))
  else (0, -1)
theorem getD_at (s : ByteArray) (j : Nat) (h : j < s.size) : s.data.toList.getD j 0 = s[j] := by
  rw [List.getD_eq_getElem?_getD, at_list s j h]; rfl
set_option maxHeartbeats 2000000 in
set_option maxRecDepth 100000 in
theorem rsz_any (p : ByteArray) (hp : 0 < p.size) (hs : p.size ≤ 281474976710656) (w : World) :
    Calls Tryz.prog 52 #[.string p] w fun e w' => e = .returned (.tuple #[.int .i64 (szT p.data.toList).1, .int .i64 (szT p.data.toList).2]) ∧ Below w.heap.size w w' := by
  obtain ⟨f, hf⟩ : ∃ f : Nat, p[0].toNat = f := ⟨_, rfl⟩
  have hf8 : f < 256 := by rw [← hf]; exact p[0].toNat_lt
  have hS : szT p.data.toList = if 128 ≤ f ∧ f < 192 then (1, (f : Int) - 128) else if 224 ≤ f ∧ f < 240 ∧ 2 ≤ p.size then (2, ((f : Int) - 224) * 256 + ((p.data.toList.getD 1 0).toNat : Int)) else if f = 240 ∧ 5 ≤ p.size then (5, (LM.leN ((p.data.toList.drop 1).take 4) : Nat)) else (0, -1) := by
    unfold szT; rw [getD_at p 0 hp, hf, list_len]
  have hz : (0 : Int) < (p.size : Int) := by omega
  by_cases c1 : 128 ≤ f ∧ f < 192
  · rw [hS, if_pos c1]
    have h1 : decide ((128 : Int) ≤ (f : Int)) = true := by simp; omega
    have h2 : decide ((f : Int) < 192) = true := by simp; omega
    clear hS c1
    go_enter Tryz.func52, Tryz.ntmps52
    go_wp2
    go_ret2
    exact ⟨rfl, Below.refl _ _⟩
  · rw [hS, if_neg c1]
    clear hS
    by_cases r1 : f < 128
    · rw [if_neg (by omega), if_neg (by omega)]
      have h1 : decide ((128 : Int) ≤ (f : Int)) = false := by simp; omega
      have h3 : decide ((224 : Int) ≤ (f : Int)) = false := by simp; omega
      have h5 : ((f : Int) == 240) = false := by simp; omega
      have h6 : ¬ (f : Int) = 240 := by omega
      clear c1 r1
      go_enter Tryz.func52, Tryz.ntmps52
      go_wp2
      go_ret2
      exact ⟨rfl, Below.refl _ _⟩
    have h1 : decide ((128 : Int) ≤ (f : Int)) = true := by simp; omega
    have h2 : decide ((f : Int) < 192) = false := by simp; omega
    by_cases r2 : f < 224
    · rw [if_neg (by omega), if_neg (by omega)]
      have h3 : decide ((224 : Int) ≤ (f : Int)) = false := by simp; omega
      have h5 : ((f : Int) == 240) = false := by simp; omega
      have h6 : ¬ (f : Int) = 240 := by omega
      clear c1 r1 r2
      go_enter Tryz.func52, Tryz.ntmps52
      go_wp2
      go_ret2
      exact ⟨rfl, Below.refl _ _⟩
    have h3 : decide ((224 : Int) ≤ (f : Int)) = true := by simp; omega
    by_cases r3 : f < 240
    · have h4 : decide ((f : Int) < 240) = true := by simp; omega
      by_cases l2 : 2 ≤ p.size
      · rw [if_pos (by omega)]
        have h7 : decide ((2 : Int) ≤ (p.size : Int)) = true := by simp; omega
        rw [getD_at p 1 (by omega)]
        obtain ⟨x, hx⟩ : ∃ x : Nat, p[1].toNat = x := ⟨_, rfl⟩
        have hx8 : x < 256 := by rw [← hx]; exact p[1].toNat_lt
        rw [hx]
        have hz1 : (1 : Int) < (p.size : Int) := by omega
        clear c1 r1 r2
        go_enter Tryz.func52, Tryz.ntmps52
        go_wp2
        go_region
        all_goals
          go_wp2
          go_ret2
          exact ⟨rfl, below_dn (Below.refl _ _) 1⟩
      · rw [if_neg (by omega), if_neg (by omega)]
        have h7 : decide ((2 : Int) ≤ (p.size : Int)) = false := by simp; omega
        have h5 : ((f : Int) == 240) = false := by simp; omega
        have h6 : ¬ (f : Int) = 240 := by omega
        clear c1 r1 r2
        go_enter Tryz.func52, Tryz.ntmps52
        go_wp2
        go_ret2
        exact ⟨rfl, Below.refl _ _⟩
    have h4 : decide ((f : Int) < 240) = false := by simp; omega
    rw [if_neg (by omega)]
    by_cases r4 : f = 240
    · have h5 : ((f : Int) == 240) = true := by simp; omega
      have h6 : (f : Int) = 240 := by omega
      by_cases l5 : 5 ≤ p.size
      · rw [if_pos ⟨r4, l5⟩]
        have h7 : decide ((5 : Int) ≤ (p.size : Int)) = true := by simp; omega
        obtain ⟨S, hS⟩ : ∃ S, p.extract 1 5 = S := ⟨_, rfl⟩
        have hSl : S.data.toList = (p.data.toList.drop 1).take 4 := by rw [← hS, ext_any]
        have hSz : S.size = 4 := by rw [← hS, ext_size _ _ _ l5]
        obtain ⟨S5, hS5⟩ : ∃ S5, S ++ (⟨#[0]⟩ : ByteArray) = S5 := ⟨_, rfl⟩
        have hS5l : S5.data.toList = S.data.toList ++ [0] := by rw [← hS5]; simp
        have hS5z : S5.size = 5 := by rw [← list_len, hS5l, List.length_append, list_len, hSz]; rfl
        have hlt := LM.leN_lt S.data.toList
        rw [list_len, hSz] at hlt
        have HSG : Hid (∀ W, Calls Tryz.prog 51 #[.string S5] W fun e w' => e = .returned (.int .i64 ((LM.leN ((p.data.toList.drop 1).take 4) : Nat) : Int)) ∧ w' = W) := fun W => by
          have := rsg_any S5 (by omega) (by omega) W
          rw [hS5l, leN_zero, hS5z, hSl] at this
          rw [hSl] at hlt
          unfold LM.sg at this
          rw [if_pos (by simp only [Nat.reducePow] at hlt ⊢; omega)] at this
          exact this
        clear hSl hS5l hlt c1 r1 r2 r3
        generalize ((LM.leN ((p.data.toList.drop 1).take 4) : Nat) : Int) = V at HSG ⊢
        go_enter Tryz.func52, Tryz.ntmps52
        go_wp2_with fail
        refine (show Calls _ _ _ _ _ from HSG.out _).mono ?_
        rintro e w1 ⟨rfl, rfl⟩
        go_wp2
        go_ret2
        exact ⟨rfl, Below.refl _ _⟩
      · rw [if_neg (by omega)]
        have h7 : decide ((5 : Int) ≤ (p.size : Int)) = false := by simp; omega
        clear c1 r1 r2 r3
        go_enter Tryz.func52, Tryz.ntmps52
        go_wp2
        go_ret2
        exact ⟨rfl, Below.refl _ _⟩
    · rw [if_neg (by omega)]
      have h5 : ((f : Int) == 240) = false := by simp; omega
      have h6 : ¬ (f : Int) = 240 := by omega
      clear c1 r1 r2 r3
      go_enter Tryz.func52, Tryz.ntmps52
      go_wp2
      go_ret2
      exact ⟨rfl, Below.refl _ _⟩
end Go.Proofs.YtadihhngegimkaaGreatDoor
namespace Go.Proofs.YtadihhngegimkaaGreatDoor
open Go.RowKit
set_option linter.unusedVariables false
def fstT (o : Option (LM.Item × Nat)) : Value := match o with
  | some x => .tuple #[.string (strB (LM.val x.1)), .bool true]
  | none => .tuple #[.string ⟨#[]⟩, .bool false]
theorem rd_of (p : ByteArray) (hp : 0 < p.size) : LM.rdItem p.data.toList = LM.rdF p[0].toNat p.data.toList := by
  have h0 := at_list p 0 hp
  cases hl : p.data.toList with
  | nil => rw [hl] at h0; simp at h0
  | cons b t => rw [hl] at h0; simp at h0; rw [LM.rdItem_cons, h0]
theorem itoa_str (n : Int) : itoaB n = strB (LM.val (LM.numI n)) := WideShapes.bytes_inj (by rw [itoaB_list, strB_list]; rfl)
/-- the calls of Digits in it. -/
theorem rdg (n : Int) (h0 : -9223372036854775808 ≤ n) (h1 : n ≤ 9223372036854775807) (w : World) : Calls Tryz.prog 50 #[.int .i64 n] w fun e w' => e = .returned (.string (strB (LM.val (LM.numI n)))) ∧ Below w.heap.size w w' := by
  rw [← itoa_str]; exact refDigits_any n h0 h1 w
set_option maxHeartbeats 2000000 in
set_option maxRecDepth 100000 in
theorem rfst_num (p : ByteArray) (hp : 0 < p.size) (hs : p.size ≤ 281474976710656) (w : World) (hf : p[0].toNat < 128 ∨ (192 ≤ p[0].toNat ∧ p[0].toNat < 224)) :
    Calls Tryz.prog 29 #[.string p] w fun e w' => e = .returned (fstT (LM.rdItem p.data.toList)) ∧ Below w.heap.size w w' := by
  rw [rd_of p hp]
  obtain ⟨f, hf0⟩ : ∃ f : Nat, p[0].toNat = f := ⟨_, rfl⟩
  have hf8 : f < 256 := by rw [← hf0]; exact p[0].toNat_lt
  rw [hf0] at hf ⊢
  have hz : (0 : Int) < (p.size : Int) := by omega
  rcases hf with c1 | ⟨c1, c2⟩
  · have HR : Hid (fstT (LM.rdF f p.data.toList) = .tuple #[.string (strB (LM.val (LM.numI (f : Int)))), .bool true]) := by
      show _ = _; unfold LM.rdF; rw [if_pos c1]; rfl
    have HDG : Hid _ := fun W => rdg (f : Int) (by omega) (by omega) W
    have h1 : decide ((f : Int) < 128) = true := by simp; omega
    rw [HR.out]
    generalize strB (LM.val (LM.numI (f : Int))) = Z at HDG ⊢
    clear HR c1
    go_enter Tryz.func29, Tryz.ntmps29
    go_wp2_with fail
    refine (show Calls _ _ _ _ _ from HDG.out _).mono ?_
    rintro e w1 ⟨rfl, hb1⟩
    have HB1 : Hid (Below w.heap.size w w1) := hb1
    clear hb1
    go_wp2
    go_ret2
    exact ⟨rfl, HB1.out⟩
  · have h1 : decide ((f : Int) < 128) = false := by simp; omega
    have h2 : decide ((192 : Int) ≤ (f : Int)) = true := by simp; omega
    have h3 : decide ((f : Int) < 224) = true := by simp; omega
    by_cases l2 : 2 ≤ p.size
    · have h4 : decide ((p.size : Int) < 2) = false := by simp; omega
      obtain ⟨x, hx⟩ : ∃ x : Nat, p[1].toNat = x := ⟨_, rfl⟩
      have hx8 : x < 256 := by rw [← hx]; exact p[1].toNat_lt
      have hz1 : (1 : Int) < (p.size : Int) := by omega
      have HR : Hid (fstT (LM.rdF f p.data.toList) = .tuple #[.string (strB (LM.val (LM.numI (LM.s13 (f * 256 + x))))), .bool true]) := by
        show _ = _; unfold LM.rdF; rw [if_neg (by omega), if_neg (by omega), if_pos c2, if_pos (by rw [list_len]; exact l2), getD_at p 1 (by omega), hx]; rfl
      rw [HR.out]
      obtain ⟨m, hm⟩ : ∃ m : Nat, (f - 192) * 256 + x = m := ⟨_, rfl⟩
      have hmm : (f * 256 + x) % 8192 = m := by omega
      by_cases hc : m < 4096
      · have hs13 : LM.s13 (f * 256 + x) = (m : Int) := by unfold LM.s13; rw [hmm, if_pos hc]
        rw [hs13]
        have HDG : Hid _ := fun W => rdg (m : Int) (by omega) (by omega) W
        generalize strB (LM.val (LM.numI (m : Int))) = Z at HDG ⊢
        have hm1 : ((f : Int) - 192) * 256 + (x : Int) = (m : Int) := by omega
        have hc1 : decide ((4096 : Int) ≤ (m : Int)) = false := by simp; omega
        clear HR hs13 hmm hm
        go_enter Tryz.func29, Tryz.ntmps29
        go_wp2_with fail
        refine (show Calls _ _ _ _ _ from HDG.out _).mono ?_
        rintro e w1 ⟨rfl, hb1⟩
        have HB1 : Hid (Below w.heap.size w w1) := hb1
        clear hb1
        go_wp2
        go_ret2
        exact ⟨rfl, HB1.out⟩
      · have hs13 : LM.s13 (f * 256 + x) = (m : Int) - 8192 := by unfold LM.s13; rw [hmm, if_neg hc]
        rw [hs13]
        have HDG : Hid _ := fun W => rdg ((m : Int) - 8192) (by omega) (by omega) W
        generalize strB (LM.val (LM.numI ((m : Int) - 8192))) = Z at HDG ⊢
        have hm1 : ((f : Int) - 192) * 256 + (x : Int) = (m : Int) := by omega
        have hc1 : decide ((4096 : Int) ≤ (m : Int)) = true := by simp; omega
        have hm2 : (m : Int) ≤ 8192 := by omega
        clear HR hs13 hmm hm
        go_enter Tryz.func29, Tryz.ntmps29
        go_wp2_with fail
        refine (show Calls _ _ _ _ _ from HDG.out _).mono ?_
        rintro e w1 ⟨rfl, hb1⟩
        have HB1 : Hid (Below w.heap.size w w1) := hb1
        clear hb1
        go_wp2
        go_ret2
        exact ⟨rfl, HB1.out⟩
    · have h4 : decide ((p.size : Int) < 2) = true := by simp; omega
      have HR : Hid (fstT (LM.rdF f p.data.toList) = .tuple #[.string ⟨#[]⟩, .bool false]) := by
        show _ = _; unfold LM.rdF; rw [if_neg (by omega), if_neg (by omega), if_pos c2, if_neg (by rw [list_len]; exact l2)]; rfl
      rw [HR.out]
      clear HR
      go_enter Tryz.func29, Tryz.ntmps29
      go_wp2
      go_ret2
      exact ⟨rfl, Below.refl _ _⟩
set_option maxHeartbeats 4000000 in
set_option maxRecDepth 100000 in
theorem rfst_wide (p : ByteArray) (hp : 0 < p.size) (hs : p.size ≤ 281474976710656) (w : World) (k : Nat) (hk : (p[0].toNat = 241 ∧ k = 2) ∨ (p[0].toNat = 242 ∧ k = 3) ∨ (p[0].toNat = 243 ∧ k = 4) ∨ (p[0].toNat = 244 ∧ k = 8)) :
    Calls Tryz.prog 29 #[.string p] w fun e w' => e = .returned (fstT (LM.rdItem p.data.toList)) ∧ Below w.heap.size w w' := by
  rw [rd_of p hp]
  have hR : LM.rdF p[0].toNat p.data.toList = LM.numAt p.data.toList k := by
    rcases hk with ⟨h, rfl⟩ | ⟨h, rfl⟩ | ⟨h, rfl⟩ | ⟨h, rfl⟩ <;> (rw [h]; rfl)
  rw [hR]
  have hz : (0 : Int) < (p.size : Int) := by omega
  by_cases hl : 1 + k ≤ p.size
  · obtain ⟨S, hS⟩ : ∃ S, p.extract 1 (1 + k) = S := ⟨_, rfl⟩
    have hSl : S.data.toList = (p.data.toList.drop 1).take k := by rw [← hS, ext_any, Nat.add_sub_cancel_left]
    have hSz : S.size = k := by rw [← hS, ext_size _ _ _ hl, Nat.add_sub_cancel_left]
    have hfit : LM.fits k (LM.sg k (LM.leN S.data.toList)) := LM.sg_fits k _ (by have := LM.leN_lt S.data.toList; rwa [list_len, hSz] at this)
    have HSG := fun W => rsg_any S (by omega) (by omega) W
    rw [hSz] at HSG
    have HR : Hid (fstT (LM.numAt p.data.toList k) = .tuple #[.string (strB (LM.val (LM.numI (LM.sg k (LM.leN S.data.toList))))), .bool true]) := by
      show _ = _; unfold LM.numAt; rw [if_pos (by rw [list_len]; exact hl), hSl]; rfl
    rw [HR.out]
    generalize LM.sg k (LM.leN S.data.toList) = V at HSG hfit ⊢
    have hV : -9223372036854775808 ≤ V ∧ V ≤ 9223372036854775807 := by
      unfold LM.fits at hfit
      rcases hk with ⟨_, rfl⟩ | ⟨_, rfl⟩ | ⟨_, rfl⟩ | ⟨_, rfl⟩ <;> simp only [Nat.reducePow] at hfit <;> omega
    have HDG : Hid _ := fun W => rdg V hV.1 hV.2 W
    have HSH : Hid _ := HSG
    generalize strB (LM.val (LM.numI V)) = Z at HDG ⊢
    clear HSG HR hSl hfit hV
    rcases hk with ⟨hf, rfl⟩ | ⟨hf, rfl⟩ | ⟨hf, rfl⟩ | ⟨hf, rfl⟩
    all_goals
      simp only [Nat.reduceAdd] at hS hl
      have hl2 : decide ((p.size : Int) < _) = false := decide_eq_false (Int.not_lt.2 (Int.ofNat_le.2 hl))
      go_enter Tryz.func29, Tryz.ntmps29
      go_wp2_with fail
      refine (show Calls _ _ _ _ _ from HSH.out _).mono ?_
      rintro e w1 ⟨rfl, rfl⟩
      go_wp2_with fail
      refine (show Calls _ _ _ _ _ from HDG.out _).mono ?_
      rintro e w2 ⟨rfl, hb2⟩
      have HB2 : Hid (Below _ _ w2) := hb2
      clear hb2
      go_wp2
      go_ret2
      exact ⟨rfl, HB2.out⟩
  · have HR : Hid (fstT (LM.numAt p.data.toList k) = .tuple #[.string ⟨#[]⟩, .bool false]) := by
      show _ = _; unfold LM.numAt; rw [if_neg (by rw [list_len]; exact hl)]; rfl
    rw [HR.out]
    clear HR hR
    rcases hk with ⟨hf, rfl⟩ | ⟨hf, rfl⟩ | ⟨hf, rfl⟩ | ⟨hf, rfl⟩
    all_goals
      simp only [Nat.reduceAdd] at hl
      have hl2 : decide ((p.size : Int) < _) = true := decide_eq_true (Int.ofNat_lt.2 (Nat.lt_of_not_le hl))
      go_enter Tryz.func29, Tryz.ntmps29
      go_wp2
      go_ret2
      exact ⟨rfl, Below.refl _ _⟩
set_option maxHeartbeats 4000000 in
set_option maxRecDepth 100000 in
theorem rfst_txt (p : ByteArray) (hp : 0 < p.size) (hs : p.size ≤ 281474976710656) (w : World) (hf : (128 ≤ p[0].toNat ∧ p[0].toNat < 192) ∨ (224 ≤ p[0].toNat ∧ p[0].toNat < 241) ∨ 245 ≤ p[0].toNat) :
    Calls Tryz.prog 29 #[.string p] w fun e w' => e = .returned (fstT (LM.rdItem p.data.toList)) ∧ Below w.heap.size w w' := by
  rw [rd_of p hp]
  obtain ⟨f, hf0⟩ : ∃ f : Nat, p[0].toNat = f := ⟨_, rfl⟩
  have hf8 : f < 256 := by rw [← hf0]; exact p[0].toNat_lt
  have hz : (0 : Int) < (p.size : Int) := by omega
  rw [hf0] at hf ⊢
  have hRS : (∃ h n : Nat, (h = 1 ∨ h = 2 ∨ h = 5) ∧ n < 4294967296 ∧ szT p.data.toList = ((h : Int), (n : Int)) ∧ LM.rdF f p.data.toList = LM.txtAt p.data.toList h n) ∨ (szT p.data.toList = (0, -1) ∧ LM.rdF f p.data.toList = none) := by
    have hS : szT p.data.toList = if 128 ≤ f ∧ f < 192 then (1, (f : Int) - 128) else if 224 ≤ f ∧ f < 240 ∧ 2 ≤ p.size then (2, ((f : Int) - 224) * 256 + ((p.data.toList.getD 1 0).toNat : Int)) else if f = 240 ∧ 5 ≤ p.size then (5, (LM.leN ((p.data.toList.drop 1).take 4) : Nat)) else (0, -1) := by
      unfold szT; rw [getD_at p 0 hp, hf0, list_len]
    have hx8 : (p.data.toList.getD 1 0).toNat < 256 := (p.data.toList.getD 1 0).toNat_lt
    rw [hS]
    unfold LM.rdF
    rw [list_len]
    rcases hf with ⟨a, b⟩ | ⟨a, b⟩ | a
    · left
      refine ⟨1, f - 128, Or.inl rfl, by omega, ?_, ?_⟩
      · rw [if_pos ⟨a, b⟩]; congr 1; omega
      · rw [if_neg (by omega), if_pos b]
    · rw [if_neg (show ¬ (128 ≤ f ∧ f < 192) by omega), if_neg (show ¬ f < 128 by omega), if_neg (show ¬ f < 192 by omega), if_neg (show ¬ f < 224 by omega)]
      by_cases c : f < 240
      · rw [if_pos c]
        by_cases l2 : 2 ≤ p.size
        · left
          rw [if_pos ⟨a, c, l2⟩, if_pos l2]
          refine ⟨2, (f - 224) * 256 + (p.data.toList.getD 1 0).toNat, Or.inr (Or.inl rfl), by omega, ?_, ?_⟩
          · congr 1; omega
          · congr 1; omega
        · right
          rw [if_neg (by omega), if_neg (by omega), if_neg l2]; exact ⟨rfl, rfl⟩
      · have e : f = 240 := by omega
        rw [if_neg c, if_neg (by omega), if_pos e]
        by_cases l5 : 5 ≤ p.size
        · left
          rw [if_pos ⟨e, l5⟩, if_pos l5]
          refine ⟨5, LM.leN ((p.data.toList.drop 1).take 4), Or.inr (Or.inr rfl), ?_, rfl, rfl⟩
          have h1 := LM.leN_lt ((p.data.toList.drop 1).take 4)
          have h2 : ((p.data.toList.drop 1).take 4).length = 4 := by rw [List.length_take, List.length_drop, list_len]; omega
          rw [h2] at h1; exact h1
        · right
          rw [if_neg (by omega), if_neg l5]; exact ⟨rfl, rfl⟩
    · right
      rw [if_neg (by omega), if_neg (by omega), if_neg (by omega)]
      rw [if_neg (by omega), if_neg (by omega), if_neg (by omega), if_neg (by omega), if_neg (by omega), if_neg (by omega), if_neg (by omega), if_neg (by omega), if_neg (by omega)]
      exact ⟨rfl, rfl⟩
  have h1 : decide ((f : Int) < 128) = false := by simp; omega
  have hnn : ¬ (192 ≤ f ∧ f < 224) := by omega
  have hnw : ¬ (241 ≤ f ∧ f ≤ 244) := by omega
  have HSZ := fun W => rsz_any p hp hs W
  by_cases q1 : f < 192
  · have g1 : decide ((192 : Int) ≤ (f : Int)) = false := by simp; omega
    have g2 : decide ((241 : Int) ≤ (f : Int)) = false := by simp; omega
    rcases hRS with ⟨h, n, hh, hn4, hsz, hrd⟩ | ⟨hsz, hrd⟩
    · rw [hsz] at HSZ
      have HSH : Hid (∀ W, Calls Tryz.prog 52 #[.string p] W fun e w' => e = .returned (.tuple #[.int .i64 (h : Int), .int .i64 (n : Int)]) ∧ Below W.heap.size W w') := HSZ
      rw [hrd]
      have hn0 : decide ((n : Int) < 0) = false := by simp
      by_cases hl : h + n ≤ p.size
      · obtain ⟨S, hS⟩ : ∃ S, p.extract h (h + n) = S := ⟨_, rfl⟩
        have HR : Hid (fstT (LM.txtAt p.data.toList h n) = .tuple #[.string S, .bool true]) := by
          have hSS : S = strB ((p.data.toList.drop h).take n) := WideShapes.bytes_inj (by rw [← hS, ext_any, strB_list, Nat.add_sub_cancel_left])
          show _ = _; unfold LM.txtAt; rw [if_pos (by rw [list_len]; exact hl), hSS]; rfl
        rw [HR.out]
        have hd : decide ((p.size : Int) - (h : Int) < (n : Int)) = false := by simp; omega
        have hh0 : (0 : Int) ≤ (h : Int) := by omega
        have hh1 : (h : Int) + (n : Int) ≤ (p.size : Int) := by omega
        have hh2 : (h : Int) ≤ (h : Int) + (n : Int) := by omega
        clear HR HSZ hrd hsz hf hnn hnw
        go_enter Tryz.func29, Tryz.ntmps29
        go_wp2_with fail
        refine (show Calls _ _ _ _ _ from HSH.out _).mono ?_
        rintro e w1 ⟨rfl, hb1⟩
        have HB1 : Hid (Below w.heap.size w w1) := hb1
        clear hb1
        go_wp2
        go_ret2
        refine ⟨?_, HB1.out⟩
        show Ending.returned (.tuple #[.string (p.extract h (h + n)), .bool true]) = _
        rw [hS]
      · have HR : Hid (fstT (LM.txtAt p.data.toList h n) = .tuple #[.string ⟨#[]⟩, .bool false]) := by
          show _ = _; unfold LM.txtAt; rw [if_neg (by rw [list_len]; exact hl)]; rfl
        rw [HR.out]
        have hd : decide ((p.size : Int) - (h : Int) < (n : Int)) = true := by simp; omega
        clear HR HSZ hrd hsz hf hnn hnw
        go_enter Tryz.func29, Tryz.ntmps29
        go_wp2_with fail
        refine (show Calls _ _ _ _ _ from HSH.out _).mono ?_
        rintro e w1 ⟨rfl, hb1⟩
        have HB1 : Hid (Below w.heap.size w w1) := hb1
        clear hb1
        go_wp2
        go_ret2
        exact ⟨rfl, HB1.out⟩
    · rw [hsz] at HSZ
      have HSH : Hid (∀ W, Calls Tryz.prog 52 #[.string p] W fun e w' => e = .returned (.tuple #[.int .i64 0, .int .i64 (-1)]) ∧ Below W.heap.size W w') := HSZ
      rw [hrd]
      have HR : Hid (fstT none = .tuple #[.string ⟨#[]⟩, .bool false]) := rfl
      rw [HR.out]
      clear HR HSZ hrd hsz hf hnn hnw
      go_enter Tryz.func29, Tryz.ntmps29
      go_wp2_with fail
      refine (show Calls _ _ _ _ _ from HSH.out _).mono ?_
      rintro e w1 ⟨rfl, hb1⟩
      have HB1 : Hid (Below w.heap.size w w1) := hb1
      clear hb1
      go_wp2
      go_ret2
      exact ⟨rfl, HB1.out⟩
  · have g1 : decide ((192 : Int) ≤ (f : Int)) = true := by simp; omega
    have g1b : decide ((f : Int) < 224) = false := by simp; omega
    by_cases q2 : f < 241
    · have g2 : decide ((241 : Int) ≤ (f : Int)) = false := by simp; omega
      rcases hRS with ⟨h, n, hh, hn4, hsz, hrd⟩ | ⟨hsz, hrd⟩
      · rw [hsz] at HSZ
        have HSH : Hid (∀ W, Calls Tryz.prog 52 #[.string p] W fun e w' => e = .returned (.tuple #[.int .i64 (h : Int), .int .i64 (n : Int)]) ∧ Below W.heap.size W w') := HSZ
        rw [hrd]
        have hn0 : decide ((n : Int) < 0) = false := by simp
        by_cases hl : h + n ≤ p.size
        · obtain ⟨S, hS⟩ : ∃ S, p.extract h (h + n) = S := ⟨_, rfl⟩
          have HR : Hid (fstT (LM.txtAt p.data.toList h n) = .tuple #[.string S, .bool true]) := by
            have hSS : S = strB ((p.data.toList.drop h).take n) := WideShapes.bytes_inj (by rw [← hS, ext_any, strB_list, Nat.add_sub_cancel_left])
            show _ = _; unfold LM.txtAt; rw [if_pos (by rw [list_len]; exact hl), hSS]; rfl
          rw [HR.out]
          have hd : decide ((p.size : Int) - (h : Int) < (n : Int)) = false := by simp; omega
          have hh0 : (0 : Int) ≤ (h : Int) := by omega
          have hh1 : (h : Int) + (n : Int) ≤ (p.size : Int) := by omega
          have hh2 : (h : Int) ≤ (h : Int) + (n : Int) := by omega
          clear HR HSZ hrd hsz hf hnn hnw
          go_enter Tryz.func29, Tryz.ntmps29
          go_wp2_with fail
          refine (show Calls _ _ _ _ _ from HSH.out _).mono ?_
          rintro e w1 ⟨rfl, hb1⟩
          have HB1 : Hid (Below w.heap.size w w1) := hb1
          clear hb1
          go_wp2
          go_ret2
          refine ⟨?_, HB1.out⟩
          show Ending.returned (.tuple #[.string (p.extract h (h + n)), .bool true]) = _
          rw [hS]
        · have HR : Hid (fstT (LM.txtAt p.data.toList h n) = .tuple #[.string ⟨#[]⟩, .bool false]) := by
            show _ = _; unfold LM.txtAt; rw [if_neg (by rw [list_len]; exact hl)]; rfl
          rw [HR.out]
          have hd : decide ((p.size : Int) - (h : Int) < (n : Int)) = true := by simp; omega
          clear HR HSZ hrd hsz hf hnn hnw
          go_enter Tryz.func29, Tryz.ntmps29
          go_wp2_with fail
          refine (show Calls _ _ _ _ _ from HSH.out _).mono ?_
          rintro e w1 ⟨rfl, hb1⟩
          have HB1 : Hid (Below w.heap.size w w1) := hb1
          clear hb1
          go_wp2
          go_ret2
          exact ⟨rfl, HB1.out⟩
      · rw [hsz] at HSZ
        have HSH : Hid (∀ W, Calls Tryz.prog 52 #[.string p] W fun e w' => e = .returned (.tuple #[.int .i64 0, .int .i64 (-1)]) ∧ Below W.heap.size W w') := HSZ
        rw [hrd]
        have HR : Hid (fstT none = .tuple #[.string ⟨#[]⟩, .bool false]) := rfl
        rw [HR.out]
        clear HR HSZ hrd hsz hf hnn hnw
        go_enter Tryz.func29, Tryz.ntmps29
        go_wp2_with fail
        refine (show Calls _ _ _ _ _ from HSH.out _).mono ?_
        rintro e w1 ⟨rfl, hb1⟩
        have HB1 : Hid (Below w.heap.size w w1) := hb1
        clear hb1
        go_wp2
        go_ret2
        exact ⟨rfl, HB1.out⟩
    · have g2 : decide ((241 : Int) ≤ (f : Int)) = true := by simp; omega
      have g2b : decide ((f : Int) ≤ 244) = false := by simp; omega
      rcases hRS with ⟨h, n, hh, hn4, hsz, hrd⟩ | ⟨hsz, hrd⟩
      · rw [hsz] at HSZ
        have HSH : Hid (∀ W, Calls Tryz.prog 52 #[.string p] W fun e w' => e = .returned (.tuple #[.int .i64 (h : Int), .int .i64 (n : Int)]) ∧ Below W.heap.size W w') := HSZ
        rw [hrd]
        have hn0 : decide ((n : Int) < 0) = false := by simp
        by_cases hl : h + n ≤ p.size
        · obtain ⟨S, hS⟩ : ∃ S, p.extract h (h + n) = S := ⟨_, rfl⟩
          have HR : Hid (fstT (LM.txtAt p.data.toList h n) = .tuple #[.string S, .bool true]) := by
            have hSS : S = strB ((p.data.toList.drop h).take n) := WideShapes.bytes_inj (by rw [← hS, ext_any, strB_list, Nat.add_sub_cancel_left])
            show _ = _; unfold LM.txtAt; rw [if_pos (by rw [list_len]; exact hl), hSS]; rfl
          rw [HR.out]
          have hd : decide ((p.size : Int) - (h : Int) < (n : Int)) = false := by simp; omega
          have hh0 : (0 : Int) ≤ (h : Int) := by omega
          have hh1 : (h : Int) + (n : Int) ≤ (p.size : Int) := by omega
          have hh2 : (h : Int) ≤ (h : Int) + (n : Int) := by omega
          clear HR HSZ hrd hsz hf hnn hnw
          go_enter Tryz.func29, Tryz.ntmps29
          go_wp2_with fail
          refine (show Calls _ _ _ _ _ from HSH.out _).mono ?_
          rintro e w1 ⟨rfl, hb1⟩
          have HB1 : Hid (Below w.heap.size w w1) := hb1
          clear hb1
          go_wp2
          go_ret2
          refine ⟨?_, HB1.out⟩
          show Ending.returned (.tuple #[.string (p.extract h (h + n)), .bool true]) = _
          rw [hS]
        · have HR : Hid (fstT (LM.txtAt p.data.toList h n) = .tuple #[.string ⟨#[]⟩, .bool false]) := by
            show _ = _; unfold LM.txtAt; rw [if_neg (by rw [list_len]; exact hl)]; rfl
          rw [HR.out]
          have hd : decide ((p.size : Int) - (h : Int) < (n : Int)) = true := by simp; omega
          clear HR HSZ hrd hsz hf hnn hnw
          go_enter Tryz.func29, Tryz.ntmps29
          go_wp2_with fail
          refine (show Calls _ _ _ _ _ from HSH.out _).mono ?_
          rintro e w1 ⟨rfl, hb1⟩
          have HB1 : Hid (Below w.heap.size w w1) := hb1
          clear hb1
          go_wp2
          go_ret2
          exact ⟨rfl, HB1.out⟩
      · rw [hsz] at HSZ
        have HSH : Hid (∀ W, Calls Tryz.prog 52 #[.string p] W fun e w' => e = .returned (.tuple #[.int .i64 0, .int .i64 (-1)]) ∧ Below W.heap.size W w') := HSZ
        rw [hrd]
        have HR : Hid (fstT none = .tuple #[.string ⟨#[]⟩, .bool false]) := rfl
        rw [HR.out]
        clear HR HSZ hrd hsz hf hnn hnw
        go_enter Tryz.func29, Tryz.ntmps29
        go_wp2_with fail
        refine (show Calls _ _ _ _ _ from HSH.out _).mono ?_
        rintro e w1 ⟨rfl, hb1⟩
        have HB1 : Hid (Below w.heap.size w w1) := hb1
        clear hb1
        go_wp2
        go_ret2
        exact ⟨rfl, HB1.out⟩
theorem rfst_any (p : ByteArray) (hp : 0 < p.size) (hs : p.size ≤ 281474976710656) (w : World) :
    Calls Tryz.prog 29 #[.string p] w fun e w' => e = .returned (fstT (LM.rdItem p.data.toList)) ∧ Below w.heap.size w w' := by
  have h8 : p[0].toNat < 256 := p[0].toNat_lt
  by_cases c1 : p[0].toNat < 128 ∨ (192 ≤ p[0].toNat ∧ p[0].toNat < 224)
  · exact rfst_num p hp hs w c1
  · by_cases c2 : (128 ≤ p[0].toNat ∧ p[0].toNat < 192) ∨ (224 ≤ p[0].toNat ∧ p[0].toNat < 241) ∨ 245 ≤ p[0].toNat
    · exact rfst_txt p hp hs w c2
    · rcases (show p[0].toNat = 241 ∨ p[0].toNat = 242 ∨ p[0].toNat = 243 ∨ p[0].toNat = 244 by omega) with h | h | h | h
      · exact rfst_wide p hp hs w 2 (Or.inl ⟨h, rfl⟩)
      · exact rfst_wide p hp hs w 3 (Or.inr (Or.inl ⟨h, rfl⟩))
      · exact rfst_wide p hp hs w 4 (Or.inr (Or.inr (Or.inl ⟨h, rfl⟩)))
      · exact rfst_wide p hp hs w 8 (Or.inr (Or.inr (Or.inr ⟨h, rfl⟩)))
end Go.Proofs.YtadihhngegimkaaGreatDoor
