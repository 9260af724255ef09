import Derived.Test.YtghgdekdbbogkaaIRAt
import Derived.Test.YtghgdekdbbogkaaIRTxt
import Derived.Test.YtghgdekdbbogkaaIRng
namespace Go.Proofs.Ytghgdekdbbogkaa
open Go.RowKit IM
set_option linter.unusedVariables false
set_option maxHeartbeats 400000 in
set_option maxRecDepth 100000 in
theorem rnew_any (w : World) :
    Calls Try.prog 19 #[] w fun e w' => e = .returned (.string (strB (txt 2 []))) ∧ Below w.heap.size w w' := by
  have ht := text_any 2 (.slice none 0 0) [] (Or.inl rfl) (by simp) (by simp) w (HoldsI.nil w)
  rw [show ((2 : Nat) : Int) = 2 from rfl] at ht
  have HT : Hid (Calls Try.prog 36 #[.int .i64 2, .slice none 0 0] w fun e w' => e = .returned (.string (strB (txt 2 []))) ∧ Below w.heap.size w w') := ht
  clear ht
  go_enter Try.func19, Try.ntmps19
  go_wp2_with fail
  refine HT.out.mono ?_
  rintro e w1 ⟨rfl, hb⟩
  go_wp2
  go_ret
  exact ⟨rfl, hb⟩
set_option maxHeartbeats 400000 in
set_option maxRecDepth 100000 in
theorem rvalid_set (p : ByteArray) (W : Nat) (l : List Int) (h : IsSet p.data.toList W l)  (w : World) :
    Calls Try.prog 22 #[.string p] w fun e w' => e = .returned (.int .i64 0) ∧ Below w.heap.size w w' := by
  have HP : Hid (∀ w, Calls Try.prog 21 #[.string p] w fun e w' => ∃ v, e = .returned (.tuple #[.int .i64 (W : Nat), v, .bool true]) ∧ w'.ownsRow w.heap.size 3 1 v l.length (icells l) ∧ Below w.heap.size w w') := fun w => read_set p W l h w
  have HH : Hid (IsSet p.data.toList W l) := h
  have hlen := h.len
  clear h
  go_enter Try.func22, Try.ntmps22
  go_wp2_with fail
  refine (HP.out _).mono ?_
  rintro e w1 ⟨v, rfl, hown, hb⟩
  have HI : Hid (HoldsI w1 v l) := HoldsI.own hown
  have HB : Hid (Below w.heap.size w w1) := hb
  have hz := hb.size
  clear hown hb
  go_wp2
  go_ret
  exact ⟨rfl, HB.out⟩
set_option maxHeartbeats 400000 in
set_option maxRecDepth 100000 in
theorem rvalid_none (p : ByteArray) (hp : p.size ≤ 9223372036854775807) (h : ¬ OkP p.data.toList)  (w : World) :
    Calls Try.prog 22 #[.string p] w fun e w' => e = .returned (.int .i64 50) ∧ Below w.heap.size w w' := by
  have HP : Hid (∀ w, Calls Try.prog 21 #[.string p] w fun e w' => e = .returned (.tuple #[.int .i64 0, .slice none 0 0, .bool false]) ∧ Below w.heap.size w w') := fun w => read_none p hp h w
  clear h hp
  go_enter Try.func22, Try.ntmps22
  go_wp2_with fail
  refine (HP.out _).mono ?_
  rintro e w1 ⟨rfl, hb⟩
  have HB : Hid (Below w.heap.size w w1) := hb
  have hz := hb.size
  clear hb
  go_wp2
  go_ret
  exact ⟨rfl, HB.out⟩
set_option maxHeartbeats 400000 in
set_option maxRecDepth 100000 in
theorem rat_none (p : ByteArray) (hp : p.size ≤ 9223372036854775807) (h : ¬ OkP p.data.toList) (i : Int) (w : World) :
    Calls Try.prog 25 #[.string p, .int .i64 i] w fun e w' => e = .returned (.tuple #[.int .i64 0, .bool false]) ∧ Below w.heap.size w w' := by
  have HP : Hid (∀ w, Calls Try.prog 21 #[.string p] w fun e w' => e = .returned (.tuple #[.int .i64 0, .slice none 0 0, .bool false]) ∧ Below w.heap.size w w') := fun w => read_none p hp h w
  clear h hp
  go_enter Try.func25, Try.ntmps25
  go_wp2_with fail
  refine (HP.out _).mono ?_
  rintro e w1 ⟨rfl, hb⟩
  have HB : Hid (Below w.heap.size w w1) := hb
  have hz := hb.size
  clear hb
  go_wp2
  go_ret2
  exact ⟨rfl, HB.out⟩
set_option maxHeartbeats 400000 in
set_option maxRecDepth 100000 in
theorem rat_out (p : ByteArray) (W : Nat) (l : List Int) (h : IsSet p.data.toList W l) (i : Int) (hi : i < 0 ∨ (l.length : Int) ≤ i) (w : World) :
    Calls Try.prog 25 #[.string p, .int .i64 i] w fun e w' => e = .returned (.tuple #[.int .i64 0, .bool false]) ∧ Below w.heap.size w w' := by
  have HP : Hid (∀ w, Calls Try.prog 21 #[.string p] w fun e w' => ∃ v, e = .returned (.tuple #[.int .i64 (W : Nat), v, .bool true]) ∧ w'.ownsRow w.heap.size 3 1 v l.length (icells l) ∧ Below w.heap.size w w') := fun w => read_set p W l h w
  have HH : Hid (IsSet p.data.toList W l) := h
  have hlen := h.len
  clear h
  go_enter Try.func25, Try.ntmps25
  go_wp2_with fail
  refine (HP.out _).mono ?_
  rintro e w1 ⟨v, rfl, hown, hb⟩
  have HI : Hid (HoldsI w1 v l) := HoldsI.own hown
  have HB : Hid (Below w.heap.size w w1) := hb
  have hz := hb.size
  clear hown hb
  rcases hi with hi | hi
  · obtain ⟨q, c, rfl, hcc⟩ := HI.out
    clear hcc
    go_wp2
    go_ret2
    exact ⟨rfl, HB.out⟩
  · obtain ⟨q, c, rfl, hcc⟩ := HI.out
    clear hcc
    go_wp2
    go_ret2
    exact ⟨rfl, HB.out⟩
set_option maxHeartbeats 400000 in
set_option maxRecDepth 100000 in
theorem rat_in (p : ByteArray) (W : Nat) (l : List Int) (h : IsSet p.data.toList W l) (k : Nat) (hk : k < l.length) (w : World) :
    Calls Try.prog 25 #[.string p, .int .i64 k] w fun e w' => e = .returned (.tuple #[.int .i64 l[k], .bool true]) ∧ Below w.heap.size w w' := by
  have HP : Hid (∀ w, Calls Try.prog 21 #[.string p] w fun e w' => ∃ v, e = .returned (.tuple #[.int .i64 (W : Nat), v, .bool true]) ∧ w'.ownsRow w.heap.size 3 1 v l.length (icells l) ∧ Below w.heap.size w w') := fun w => read_set p W l h w
  have HH : Hid (IsSet p.data.toList W l) := h
  have hlen := h.len
  clear h
  go_enter Try.func25, Try.ntmps25
  go_wp2_with fail
  refine (HP.out _).mono ?_
  rintro e w1 ⟨v, rfl, hown, hb⟩
  have HI : Hid (HoldsI w1 v l) := HoldsI.own hown
  have HB : Hid (Below w.heap.size w w1) := hb
  have hz := hb.size
  clear hown hb
  obtain ⟨q, c, rfl, hcc⟩ := HI.out
  obtain ⟨g, rfl, hcell⟩ := hcc (by intro e; rw [e] at hk; simp at hk)
  have hck := hcell k hk
  have hkz : (k : Int) < (l.length : Int) := by omega
  clear hcc hcell
  generalize hx : l[k] = x at hck
  have HX : Hid (l[k] = x) := hx
  clear hx
  go_wp2
  go_ret2
  exact ⟨by rw [HX.out]; rfl, HB.out⟩
set_option maxHeartbeats 400000 in
set_option maxRecDepth 100000 in
theorem rhas_set (p : ByteArray) (W : Nat) (l : List Int) (h : IsSet p.data.toList W l) (n : Int) (w : World) :
    Calls Try.prog 28 #[.string p, .int .i64 n] w fun e w' => e = .returned (.bool (decide (n ∈ l))) ∧ Below w.heap.size w w' := by
  have HP : Hid (∀ w, Calls Try.prog 21 #[.string p] w fun e w' => ∃ v, e = .returned (.tuple #[.int .i64 (W : Nat), v, .bool true]) ∧ w'.ownsRow w.heap.size 3 1 v l.length (icells l) ∧ Below w.heap.size w w') := fun w => read_set p W l h w
  have HH : Hid (IsSet p.data.toList W l) := h
  have hlen := h.len
  have HAT : Hid (∀ v w, HoldsI w v l → Calls Try.prog 35 #[v, .int .i64 n] w fun e w' => e = .returned (.tuple #[.int .i64 (pos l n : Nat), .bool (decide (n ∈ l))]) ∧ Below w.heap.size w w') := fun v w hv => refat_any v l h.rise h.len n w hv
  generalize decide (n ∈ l) = bb at *
  clear h
  go_enter Try.func28, Try.ntmps28
  go_wp2_with fail
  refine (HP.out _).mono ?_
  rintro e w1 ⟨v, rfl, hown, hb⟩
  have HI : Hid (HoldsI w1 v l) := HoldsI.own hown
  have HB : Hid (Below w.heap.size w w1) := hb
  have hz := hb.size
  clear hown hb
  go_wp2_with fail
  refine (HAT.out _ _ HI.out).mono ?_
  rintro e w2 ⟨rfl, hb2⟩
  have HB2 : Hid (Below w.heap.size w w2) := HB.out.trans (hb2.mono hz)
  have HI2 : Hid (HoldsI w2 v l) := HI.out.keep hb2
  clear hb2
  go_wp2
  go_ret
  exact ⟨rfl, HB2.out⟩
set_option maxHeartbeats 400000 in
set_option maxRecDepth 100000 in
theorem rhas_none (p : ByteArray) (hp : p.size ≤ 9223372036854775807) (h : ¬ OkP p.data.toList) (n : Int) (w : World) :
    Calls Try.prog 28 #[.string p, .int .i64 n] w fun e w' => e = .returned (.bool false) ∧ Below w.heap.size w w' := by
  have HP : Hid (∀ w, Calls Try.prog 21 #[.string p] w fun e w' => e = .returned (.tuple #[.int .i64 0, .slice none 0 0, .bool false]) ∧ Below w.heap.size w w') := fun w => read_none p hp h w
  have HAT : Hid (∀ w, Calls Try.prog 35 #[.slice none 0 0, .int .i64 n] w fun e w' => e = .returned (.tuple #[.int .i64 (pos [] n : Nat), .bool (decide (n ∈ ([] : List Int)))]) ∧ Below w.heap.size w w') := fun w => refat_any _ [] (by exact List.Pairwise.nil) (by simp) n w (HoldsI.nil w)
  clear h hp
  go_enter Try.func28, Try.ntmps28
  go_wp2_with fail
  refine (HP.out _).mono ?_
  rintro e w1 ⟨rfl, hb⟩
  have HB : Hid (Below w.heap.size w w1) := hb
  have hz := hb.size
  clear hb
  go_wp2_with fail
  refine (HAT.out _).mono ?_
  rintro e w2 ⟨rfl, hb2⟩
  have HB2 : Hid (Below w.heap.size w w2) := HB.out.trans (hb2.mono hz)
  clear hb2
  go_wp2
  go_ret
  exact ⟨rfl, HB2.out⟩
set_option maxHeartbeats 400000 in
set_option maxRecDepth 100000 in
theorem rrange_none (p : ByteArray) (hp : p.size ≤ 9223372036854775807) (h : ¬ OkP p.data.toList) (i j : Int) (w : World) :
    Calls Try.prog 27 #[.string p, .int .i64 i, .int .i64 j] w fun e w' => e = .returned (.tuple #[.int .i64 0, .int .i64 0]) ∧ Below w.heap.size w w' := by
  have HP : Hid (∀ w, Calls Try.prog 21 #[.string p] w fun e w' => e = .returned (.tuple #[.int .i64 0, .slice none 0 0, .bool false]) ∧ Below w.heap.size w w') := fun w => read_none p hp h w
  clear h hp
  go_enter Try.func27, Try.ntmps27
  go_wp2_with fail
  refine (HP.out _).mono ?_
  rintro e w1 ⟨rfl, hb⟩
  have HB : Hid (Below w.heap.size w w1) := hb
  have hz := hb.size
  clear hb
  go_wp2
  go_ret2
  exact ⟨rfl, HB.out⟩
set_option maxHeartbeats 400000 in
set_option maxRecDepth 100000 in
theorem rrange_turned (p : ByteArray) (W : Nat) (l : List Int) (h : IsSet p.data.toList W l) (i j : Int) (hij : j < i) (w : World) :
    Calls Try.prog 27 #[.string p, .int .i64 i, .int .i64 j] w fun e w' => e = .returned (.tuple #[.int .i64 0, .int .i64 0]) ∧ Below w.heap.size w w' := by
  have HP : Hid (∀ w, Calls Try.prog 21 #[.string p] w fun e w' => ∃ v, e = .returned (.tuple #[.int .i64 (W : Nat), v, .bool true]) ∧ w'.ownsRow w.heap.size 3 1 v l.length (icells l) ∧ Below w.heap.size w w') := fun w => read_set p W l h w
  have HH : Hid (IsSet p.data.toList W l) := h
  have hlen := h.len
  clear h
  go_enter Try.func27, Try.ntmps27
  go_wp2_with fail
  refine (HP.out _).mono ?_
  rintro e w1 ⟨v, rfl, hown, hb⟩
  have HI : Hid (HoldsI w1 v l) := HoldsI.own hown
  have HB : Hid (Below w.heap.size w w1) := hb
  have hz := hb.size
  clear hown hb
  go_wp2
  go_ret2
  exact ⟨rfl, HB.out⟩
set_option maxHeartbeats 400000 in
set_option maxRecDepth 100000 in
theorem rrange_in (p : ByteArray) (W : Nat) (l : List Int) (h : IsSet p.data.toList W l) (n j : Int) (hij : n ≤ j) (w : World) :
    Calls Try.prog 27 #[.string p, .int .i64 n, .int .i64 j] w fun e w' => e = .returned (.tuple #[.int .i64 (pos l n : Nat), .int .i64 (((posG l j : Nat) : Int) - ((pos l n : Nat) : Int))]) ∧ Below w.heap.size w w' := by
  have HP : Hid (∀ w, Calls Try.prog 21 #[.string p] w fun e w' => ∃ v, e = .returned (.tuple #[.int .i64 (W : Nat), v, .bool true]) ∧ w'.ownsRow w.heap.size 3 1 v l.length (icells l) ∧ Below w.heap.size w w') := fun w => read_set p W l h w
  have HH : Hid (IsSet p.data.toList W l) := h
  have hlen := h.len
  have HAT : Hid (∀ v w, HoldsI w v l → Calls Try.prog 35 #[v, .int .i64 n] w fun e w' => e = .returned (.tuple #[.int .i64 (pos l n : Nat), .bool (decide (n ∈ l))]) ∧ Below w.heap.size w w') := fun v w hv => refat_any v l h.rise h.len n w hv
  have HGG : Hid (∀ k, (hk : k ≤ l.length) → pos l n ≤ k → (∀ t, (h : t < l.length) → pos l n ≤ t → t < k → l[t] ≤ j) → (∀ h : k < l.length, j < l[k]) → posG l j = k) := fun k hk h1 h2 h3 => by
    rw [posG_pos]
    refine pos_eq l (j + 1) k hk (fun t ht htk => ?_) (fun t ht htk => ?_)
    · rcases Nat.lt_or_ge t (pos l n) with h4 | h4
      · have := (pos_lt h.rise n).1 t ht h4; omega
      · have := h2 t ht h4 htk; omega
    · rcases Nat.eq_or_lt_of_le htk with e | hlt
      · subst e; have := h3 ht; omega
      · have := h.rise.lt k t hlt ht; have := h3 (by omega); omega
  have HXL : Hid (pos l n ≤ l.length) := pos_le l n
  generalize hX : pos l n = X at *
  generalize hG : posG l j = G at *
  clear h
  go_enter Try.func27, Try.ntmps27
  go_wp2_with fail
  refine (HP.out _).mono ?_
  rintro e w1 ⟨v, rfl, hown, hb⟩
  have HI : Hid (HoldsI w1 v l) := HoldsI.own hown
  have HB : Hid (Below w.heap.size w w1) := hb
  have hz := hb.size
  clear hown hb
  go_wp2_with fail
  refine (HAT.out _ _ HI.out).mono ?_
  rintro e w2 ⟨rfl, hb2⟩
  have HB2 : Hid (Below w.heap.size w w2) := HB.out.trans (hb2.mono hz)
  have HI2 : Hid (HoldsI w2 v l) := HI.out.keep hb2
  clear hb2
  obtain ⟨q, c, rfl, hcc⟩ := HI2.out
  have HCC : Hid _ := hcc
  clear hcc
  go_wp2
  go_loopw [13, 14] (fun nn kk wr => ∃ k : Nat, X ≤ k ∧ k ≤ l.length ∧ kk = .int .i64 k ∧ nn = .int .i64 ((k : Int) - (X : Int)) ∧ (∀ t, (h : t < l.length) → X ≤ t → t < k → l[t] ≤ j) ∧ wr = w2) (fun _ kk _ => l.length - (intOf kk).toNat)
  case atStart => exact ⟨X, by omega, HXL.out, rfl, by go_num, by intro t h h1 h2; omega, rfl⟩
  case round =>
    obtain ⟨k, hXk, hk, rfl, rfl, hup, rfl⟩ := hrel
    have HU : Hid (∀ t, (h : t < l.length) → X ≤ t → t < k → l[t] ≤ j) := hup
    clear hup
    by_cases hlt : k < l.length
    · obtain ⟨g, rfl, hcell⟩ := HCC.out (by intro e; rw [e] at hlt; simp at hlt)
      have hc := hcell k hlt
      have hkz : (k : Int) < (l.length : Int) := by omega
      clear hcell
      generalize hx : l[k] = x at hc
      have HX : Hid (l[k] = x) := hx
      clear hx
      by_cases hge : x ≤ j
      · go_wp2
        go_roundw
        case rel =>
          refine ⟨k + 1, by omega, by omega, by go_num, by go_num, ?_, by first | exact rfl | trivial⟩
          intro t ht h1 h2
          rcases Nat.lt_or_ge t k with h | h
          · exact HU.out t ht h1 h
          · have : t = k := by omega
            subst this
            rw [HX.out]; exact hge
        case measure => simp [intOf]; omega
      · have HGK : Hid (G = k) := HGG.out k hk hXk HU.out (fun _ => by rw [HX.out]; omega)
        go_wp2
        go_ret2
        exact ⟨by rw [HGK.out]; rfl, HB2.out⟩
    · have hke : k = l.length := by omega
      have HGK : Hid (G = k) := HGG.out k hk hXk HU.out (fun h => absurd h hlt)
      subst hke
      go_wp2
      go_ret2
      exact ⟨by rw [HGK.out]; rfl, HB2.out⟩
end Go.Proofs.Ytghgdekdbbogkaa
