import Derived.Test.YtghgdekdbbogkaaIRow
import Derived.Test.YtghgdekdbbogkaaILit
import Derived.Test.YtghgdekdbbogkaaINum
namespace Go.Proofs.Ytghgdekdbbogkaa
open Go.RowKit IM
set_option linter.unusedVariables false
theorem num_ext (p : ByteArray) (a b : Nat) (hb : b ≤ p.size) (h3 : W3 (b - a)) (w : World) :
    Calls Try.prog 39 #[.string (p.extract a b)] w fun e w' => e = .returned (.int .i64 (sg (b - a) (leN ((p.data.toList.drop a).take (b - a))))) ∧ ∃ n, w' = w.drewN n := by
  have h := number_any (p.extract a b) (by rw [ext_size _ _ _ hb]; exact h3) w
  rw [ext_size _ _ _ hb, ext_any] at h
  exact h
theorem u32_back (u : Nat) (h : u < 4294967296) : IntKind.u32.wrap (sg 4 u) = (u : Int) := by
  have e4 : (256 : Nat) ^ 4 = 4294967296 := by decide
  have e : ∀ n : Int, IntKind.u32.wrap n = n % 4294967296 := fun n => by
    show (if false && decide (n % (2 ^ 32 : Int) ≥ (2 ^ 31 : Int)) then n % (2 ^ 32 : Int) - (2 ^ 32 : Int) else n % (2 ^ 32 : Int)) = _
    have e1 : (2 ^ 32 : Int) = 4294967296 := by decide
    rw [e1]; simp
  rw [e]; unfold sg; rw [e4]
  split <;> omega
set_option maxHeartbeats 400000 in
set_option maxRecDepth 100000 in
theorem read_short (p : ByteArray) (h : p.size < 8) (w : World) :
    Calls Try.prog 21 #[.string p] w fun e w' => e = .returned (.tuple #[.int .i64 0, .slice none 0 0, .bool false]) ∧ Below w.heap.size w w' := by
  go_enter Try.func21, Try.ntmps21
  go_wp2
  go_ret3
  exact ⟨rfl, Below.refl _ _⟩
set_option maxHeartbeats 400000 in
set_option maxRecDepth 100000 in
theorem read_w (p : ByteArray) (h : 8 ≤ p.size) (hp : p.size ≤ 9223372036854775807) (h3 : ¬ W3 (wid p.data.toList)) (w : World) :
    Calls Try.prog 21 #[.string p] w fun e w' => e = .returned (.tuple #[.int .i64 0, .slice none 0 0, .bool false]) ∧ Below w.heap.size w w' := by
  have l1 : (p.data.toList.take 4).length = 4 := by rw [List.length_take, list_len]; omega
  have l2 : ((p.data.toList.drop 4).take 4).length = 4 := by rw [List.length_take, List.length_drop, list_len]; omega
  have e4 : (256 : Nat) ^ 4 = 4294967296 := by decide
  have hw : wid p.data.toList < 4294967296 := by unfold wid; have := leN_lt (p.data.toList.take 4); rw [l1, e4] at this; exact this
  have hc : cnt p.data.toList < 4294967296 := by unfold cnt; have := leN_lt ((p.data.toList.drop 4).take 4); rw [l2, e4] at this; exact this
  have hn1 := num_ext p 0 4 (by omega) (Or.inr (Or.inl rfl))
  have hn2 := num_ext p 4 8 (by omega) (Or.inr (Or.inl rfl))
  rw [show 4 - 0 = 4 from rfl, List.drop_zero, show leN (p.data.toList.take 4) = wid p.data.toList from rfl] at hn1
  rw [show 8 - 4 = 4 from rfl, show leN ((p.data.toList.drop 4).take 4) = cnt p.data.toList from rfl] at hn2
  generalize wid p.data.toList = W at *
  generalize cnt p.data.toList = C at *
  have b1 := u32_back W hw
  have b2 := u32_back C hc
  generalize sg 4 W = SW at *
  generalize sg 4 C = SC at *
  have H1 : Hid (∀ w, Calls Try.prog 39 #[.string (p.extract 0 4)] w fun e w' => e = .returned (.int .i64 SW) ∧ ∃ n, w' = w.drewN n) := hn1
  have H2 : Hid (∀ w, Calls Try.prog 39 #[.string (p.extract 4 8)] w fun e w' => e = .returned (.int .i64 SC) ∧ ∃ n, w' = w.drewN n) := hn2
  clear hn1 hn2 l1 l2 e4
  have m2 : ((W : Int) != 2) = true := bne_iff_ne.2 (fun e => h3 (Or.inl (by omega)))
  have m4 : ((W : Int) != 4) = true := bne_iff_ne.2 (fun e => h3 (Or.inr (Or.inl (by omega))))
  have m8 : ((W : Int) != 8) = true := bne_iff_ne.2 (fun e => h3 (Or.inr (Or.inr (by omega))))
  clear h3
  go_enter Try.func21, Try.ntmps21
  go_wp2_with fail
  refine (H1.out _).mono ?_
  rintro e w1 ⟨rfl, n1, rfl⟩
  go_wp2_with fail
  refine (H2.out _).mono ?_
  rintro e w2 ⟨rfl, n2, rfl⟩
  go_wp2
  go_ret3
  exact ⟨rfl, below_dn (Below.refl _ _) _⟩
set_option maxHeartbeats 400000 in
set_option maxRecDepth 100000 in
theorem read_c (p : ByteArray) (h : 8 ≤ p.size) (hp : p.size ≤ 9223372036854775807) (h3 : W3 (wid p.data.toList)) (hm : 1048576 < cnt p.data.toList) (w : World) :
    Calls Try.prog 21 #[.string p] w fun e w' => e = .returned (.tuple #[.int .i64 0, .slice none 0 0, .bool false]) ∧ Below w.heap.size w w' := by
  have l1 : (p.data.toList.take 4).length = 4 := by rw [List.length_take, list_len]; omega
  have l2 : ((p.data.toList.drop 4).take 4).length = 4 := by rw [List.length_take, List.length_drop, list_len]; omega
  have e4 : (256 : Nat) ^ 4 = 4294967296 := by decide
  have hw : wid p.data.toList < 4294967296 := by unfold wid; have := leN_lt (p.data.toList.take 4); rw [l1, e4] at this; exact this
  have hc : cnt p.data.toList < 4294967296 := by unfold cnt; have := leN_lt ((p.data.toList.drop 4).take 4); rw [l2, e4] at this; exact this
  have hn1 := num_ext p 0 4 (by omega) (Or.inr (Or.inl rfl))
  have hn2 := num_ext p 4 8 (by omega) (Or.inr (Or.inl rfl))
  rw [show 4 - 0 = 4 from rfl, List.drop_zero, show leN (p.data.toList.take 4) = wid p.data.toList from rfl] at hn1
  rw [show 8 - 4 = 4 from rfl, show leN ((p.data.toList.drop 4).take 4) = cnt p.data.toList from rfl] at hn2
  generalize wid p.data.toList = W at *
  generalize cnt p.data.toList = C at *
  have b1 := u32_back W hw
  have b2 := u32_back C hc
  generalize sg 4 W = SW at *
  generalize sg 4 C = SC at *
  have H1 : Hid (∀ w, Calls Try.prog 39 #[.string (p.extract 0 4)] w fun e w' => e = .returned (.int .i64 SW) ∧ ∃ n, w' = w.drewN n) := hn1
  have H2 : Hid (∀ w, Calls Try.prog 39 #[.string (p.extract 4 8)] w fun e w' => e = .returned (.int .i64 SC) ∧ ∃ n, w' = w.drewN n) := hn2
  clear hn1 hn2 l1 l2 e4
  have hcase : (((W : Int) != 2) = false) ∨ (((W : Int) != 2) = true ∧ ((W : Int) != 4) = false) ∨ (((W : Int) != 2) = true ∧ ((W : Int) != 4) = true ∧ ((W : Int) != 8) = false) := by
    rcases h3 with e | e | e
    · subst e; exact Or.inl rfl
    · subst e; exact Or.inr (Or.inl ⟨rfl, rfl⟩)
    · subst e; exact Or.inr (Or.inr ⟨rfl, rfl, rfl⟩)
  have H3 : Hid (W3 W) := h3
  clear h3
  rcases hcase with m2 | ⟨m2, m4⟩ | ⟨m2, m4, m8⟩
  · go_enter Try.func21, Try.ntmps21
    go_wp2_with fail
    refine (H1.out _).mono ?_
    rintro e w1 ⟨rfl, n1, rfl⟩
    go_wp2_with fail
    refine (H2.out _).mono ?_
    rintro e w2 ⟨rfl, n2, rfl⟩
    go_wp2
    go_ret3
    exact ⟨rfl, below_dn (Below.refl _ _) _⟩
  · go_enter Try.func21, Try.ntmps21
    go_wp2_with fail
    refine (H1.out _).mono ?_
    rintro e w1 ⟨rfl, n1, rfl⟩
    go_wp2_with fail
    refine (H2.out _).mono ?_
    rintro e w2 ⟨rfl, n2, rfl⟩
    go_wp2
    go_ret3
    exact ⟨rfl, below_dn (Below.refl _ _) _⟩
  · go_enter Try.func21, Try.ntmps21
    go_wp2_with fail
    refine (H1.out _).mono ?_
    rintro e w1 ⟨rfl, n1, rfl⟩
    go_wp2_with fail
    refine (H2.out _).mono ?_
    rintro e w2 ⟨rfl, n2, rfl⟩
    go_wp2
    go_ret3
    exact ⟨rfl, below_dn (Below.refl _ _) _⟩
set_option maxHeartbeats 400000 in
set_option maxRecDepth 100000 in
theorem read_l (p : ByteArray) (h : 8 ≤ p.size) (hp : p.size ≤ 9223372036854775807) (h3 : W3 (wid p.data.toList)) (hm : cnt p.data.toList ≤ 1048576) (hl : p.size ≠ 8 + cnt p.data.toList * wid p.data.toList) (w : World) :
    Calls Try.prog 21 #[.string p] w fun e w' => e = .returned (.tuple #[.int .i64 0, .slice none 0 0, .bool false]) ∧ Below w.heap.size w w' := by
  have l1 : (p.data.toList.take 4).length = 4 := by rw [List.length_take, list_len]; omega
  have l2 : ((p.data.toList.drop 4).take 4).length = 4 := by rw [List.length_take, List.length_drop, list_len]; omega
  have e4 : (256 : Nat) ^ 4 = 4294967296 := by decide
  have hw : wid p.data.toList < 4294967296 := by unfold wid; have := leN_lt (p.data.toList.take 4); rw [l1, e4] at this; exact this
  have hc : cnt p.data.toList < 4294967296 := by unfold cnt; have := leN_lt ((p.data.toList.drop 4).take 4); rw [l2, e4] at this; exact this
  have hn1 := num_ext p 0 4 (by omega) (Or.inr (Or.inl rfl))
  have hn2 := num_ext p 4 8 (by omega) (Or.inr (Or.inl rfl))
  rw [show 4 - 0 = 4 from rfl, List.drop_zero, show leN (p.data.toList.take 4) = wid p.data.toList from rfl] at hn1
  rw [show 8 - 4 = 4 from rfl, show leN ((p.data.toList.drop 4).take 4) = cnt p.data.toList from rfl] at hn2
  generalize wid p.data.toList = W at *
  generalize cnt p.data.toList = C at *
  have b1 := u32_back W hw
  have b2 := u32_back C hc
  generalize sg 4 W = SW at *
  generalize sg 4 C = SC at *
  have H1 : Hid (∀ w, Calls Try.prog 39 #[.string (p.extract 0 4)] w fun e w' => e = .returned (.int .i64 SW) ∧ ∃ n, w' = w.drewN n) := hn1
  have H2 : Hid (∀ w, Calls Try.prog 39 #[.string (p.extract 4 8)] w fun e w' => e = .returned (.int .i64 SC) ∧ ∃ n, w' = w.drewN n) := hn2
  clear hn1 hn2 l1 l2 e4
  have hcase : (((W : Int) != 2) = false) ∨ (((W : Int) != 2) = true ∧ ((W : Int) != 4) = false) ∨ (((W : Int) != 2) = true ∧ ((W : Int) != 4) = true ∧ ((W : Int) != 8) = false) := by
    rcases h3 with e | e | e
    · subst e; exact Or.inl rfl
    · subst e; exact Or.inr (Or.inl ⟨rfl, rfl⟩)
    · subst e; exact Or.inr (Or.inr ⟨rfl, rfl, rfl⟩)
  have H3 : Hid (W3 W) := h3
  clear hcase hw
  rcases h3 with rfl | rfl | rfl
  · have hlz : ((p.size : Int) != 8 + (C : Int) * 2) = true := bne_iff_ne.2 (by omega)
    go_enter Try.func21, Try.ntmps21
    go_wp2_with fail
    refine (H1.out _).mono ?_
    rintro e w1 ⟨rfl, n1, rfl⟩
    go_wp2_with fail
    refine (H2.out _).mono ?_
    rintro e w2 ⟨rfl, n2, rfl⟩
    go_wp2
    go_ret3
    exact ⟨rfl, below_dn (Below.refl _ _) _⟩
  · have hlz : ((p.size : Int) != 8 + (C : Int) * 4) = true := bne_iff_ne.2 (by omega)
    go_enter Try.func21, Try.ntmps21
    go_wp2_with fail
    refine (H1.out _).mono ?_
    rintro e w1 ⟨rfl, n1, rfl⟩
    go_wp2_with fail
    refine (H2.out _).mono ?_
    rintro e w2 ⟨rfl, n2, rfl⟩
    go_wp2
    go_ret3
    exact ⟨rfl, below_dn (Below.refl _ _) _⟩
  · have hlz : ((p.size : Int) != 8 + (C : Int) * 8) = true := bne_iff_ne.2 (by omega)
    go_enter Try.func21, Try.ntmps21
    go_wp2_with fail
    refine (H1.out _).mono ?_
    rintro e w1 ⟨rfl, n1, rfl⟩
    go_wp2_with fail
    refine (H2.out _).mono ?_
    rintro e w2 ⟨rfl, n2, rfl⟩
    go_wp2
    go_ret3
    exact ⟨rfl, below_dn (Below.refl _ _) _⟩
end Go.Proofs.Ytghgdekdbbogkaa
