import Derived.Test.YtghgdekdbbogkaaIParse
import Derived.Deep.LoopGhost
namespace Go.Proofs.Ytghgdekdbbogkaa
open Go.RowKit IM
set_option linter.unusedVariables false
set_option maxHeartbeats 1000000 in
set_option maxRecDepth 1000000 in
theorem search_any (g : Nat) (cb : Array Value) (n : Nat) (p : Nat → Bool) (w : World) (eg : ∀ args w, (callFunc g args).run Try.prog w = .ok (.enter g args) w) (hsz : n < 4611686018427387904)
    (hf : ∀ (W : World) (i : Nat), i < n → Below w.heap.size w W → Calls Try.prog g (#[.int .i64 i] ++ cb) W fun e w' => e = .returned (.bool (p i)) ∧ Below W.heap.size W w')
    (hmono : ∀ a b, a ≤ b → b < n → p a = true → p b = true) :
    Calls Try.prog 54 #[.int .i64 n, .func (.func g) #[] cb] w fun e w' => ∃ r : Nat, e = .returned (.int .i64 r) ∧ r ≤ n ∧ (∀ t, t < r → p t = false) ∧ (∀ t, r ≤ t → t < n → p t = true) ∧ Below w.heap.size w w' := by
  have HF : Hid _ := hf
  have M : Hid _ := hmono
  clear hf hmono
  go_enter Try.func54, Try.ntmps54
  go_wp2
  go_loopg [5, 6] n (fun kx s5 s6 wr => ∃ (lo hi : Nat), s5 = .int .i64 lo ∧ s6 = .int .i64 hi ∧ lo ≤ hi ∧ hi ≤ n ∧ hi - lo ≤ kx ∧ Below w.heap.size w wr ∧
    Hid ((∀ t, t < lo → p t = false) ∧ (∀ t, hi ≤ t → t < n → p t = true)))
  case atStart => exact ⟨0, n, rfl, rfl, Nat.zero_le _, Nat.le_refl _, by omega, Below.refl _ _, (⟨fun t ht => absurd ht (Nat.not_lt_zero _), fun t h1 h2 => by omega⟩ : (∀ t, t < 0 → p t = false) ∧ (∀ t, n ≤ t → t < n → p t = true))⟩
  case round =>
    obtain ⟨lo, hi, rfl, rfl, hlh, hin, hg, hbel, I⟩ := hrel
    have HB : Hid (Below w.heap.size w wr) := hbel
    by_cases hlt : lo < hi
    · have hc := HF.out wr ((lo + hi) / 2) (by omega) hbel
      clear hbel
      rw [show (((lo + hi) / 2 : Nat) : Int) = ((lo : Int) + (hi : Int)) / 2 by omega] at hc
      cases hp : p ((lo + hi) / 2) <;> rw [hp] at hc
      · have HP : Hid (p ((lo + hi) / 2) = false) := hp
        clear hp
        go_wp2_with fail
        refine hc.mono ?_
        rintro e w' ⟨rfl, hb2⟩
        go_wp2
        have HB2 : Hid (Below w.heap.size w w') := HB.out.trans (hb2.mono HB.out.size)
        go_roundg (hi - ((lo + hi) / 2 + 1))
        case measure => omega
        case rel =>
          have I2 : Hid ((∀ t, t < (lo + hi) / 2 + 1 → p t = false) ∧ (∀ t, hi ≤ t → t < n → p t = true)) := ⟨fun t ht => (by
            cases h : p t with
            | false => rfl
            | true => have := M.out t ((lo + hi) / 2) (by omega) (by omega) h; rw [HP.out] at this; cases this), I.out.2⟩
          exact ⟨(lo + hi) / 2 + 1, hi, by rw [show ((lo : Int) + (hi : Int)) / 2 + 1 = (((lo + hi) / 2 + 1 : Nat) : Int) by omega], rfl, by omega, hin, Nat.le_refl _, HB2.out, I2⟩
      · have HP : Hid (p ((lo + hi) / 2) = true) := hp
        clear hp
        go_wp2_with fail
        refine hc.mono ?_
        rintro e w' ⟨rfl, hb2⟩
        go_wp2
        have HB2 : Hid (Below w.heap.size w w') := HB.out.trans (hb2.mono HB.out.size)
        go_roundg ((lo + hi) / 2 - lo)
        case measure => omega
        case rel =>
          have I2 : Hid ((∀ t, t < lo → p t = false) ∧ (∀ t, (lo + hi) / 2 ≤ t → t < n → p t = true)) := ⟨I.out.1, fun t ht htn => M.out ((lo + hi) / 2) t ht htn HP.out⟩
          exact ⟨lo, (lo + hi) / 2, rfl, by rw [show ((lo : Int) + (hi : Int)) / 2 = (((lo + hi) / 2 : Nat) : Int) by omega], by omega, by omega, Nat.le_refl _, HB2.out, I2⟩
    · obtain rfl : hi = lo := by omega
      clear hbel
      go_wp2
      go_ret
      exact ⟨hi, rfl, hin, I.out.1, I.out.2, HB.out⟩
set_option maxHeartbeats 400000 in
set_option maxRecDepth 100000 in
theorem geq_any (b : Nat) (m n : Int) (w : World) (hc : w.cell? ⟨b, 0, none⟩ = some (.int .i64 n)) :
    Calls Try.prog 49 (#[.int .i64 m] ++ #[.pointer (some ⟨b, 0, none⟩)]) w fun e w' => e = .returned (.bool (decide (n ≤ m))) ∧ Below w.heap.size w w' := by
  show Calls _ _ #[.int .i64 m, .pointer (some ⟨b, 0, none⟩)] _ _
  go_enter Try.func49, Try.ntmps49
  go_wp2
  go_ret
  exact ⟨rfl, Below.refl _ _⟩
set_option maxHeartbeats 400000 in
set_option maxRecDepth 100000 in
theorem closure_any (bf bs g : Nat) (cb2 : Array Value) (p : ByteArray) (W C i : Nat) (m : Int) (f : Bool) (w : World) (eg : ∀ args w, (callFunc g args).run Try.prog w = .ok (.enter g args) w)
    (hf : w.cell? ⟨bf, 0, none⟩ = some (.func (.func g) #[] cb2)) (h0 : w.cell? ⟨bs, 0, none⟩ = some (.string p)) (h1 : w.cell? ⟨bs, 1, none⟩ = some (.int .i64 (W : Int))) (h2 : w.cell? ⟨bs, 2, none⟩ = some (.int .i64 (C : Int)))
    (hat : ∀ W', Calls Try.prog 34 #[setV p W C, .int .i64 i] W' fun e w' => e = .returned (.int .i64 m) ∧ Below W'.heap.size W' w')
    (hg : ∀ W', Below w.heap.size w W' → Calls Try.prog g (#[.int .i64 m] ++ cb2) W' fun e w' => e = .returned (.bool f) ∧ Below W'.heap.size W' w') :
    Calls Try.prog 55 (#[.int .i64 i] ++ #[.pointer (some ⟨bf, 0, none⟩), .pointer (some ⟨bs, 0, none⟩)]) w fun e w' => e = .returned (.bool f) ∧ Below w.heap.size w w' := by
  show Calls _ _ #[.int .i64 i, .pointer (some ⟨bf, 0, none⟩), .pointer (some ⟨bs, 0, none⟩)] _ _
  have HA : Hid _ := hat
  have HG : Hid _ := hg
  clear hat hg
  unfold setV at *
  go_enter Try.func55, Try.ntmps55
  go_wp2
  go_region_with (first
    | (go_at_call 34; refine (HA.out _).mono ?_; rintro e w' ⟨rfl, hb⟩; have kf : w'.cell? ⟨bf, 0, none⟩ = some (.func (.func g) #[] cb2) := (cell_below hb (World.block_lt_of_cell? _ _ hf)).trans hf; have hbw : Below w.heap.size w w' := (Below.drew (Below.refl _ w)).trans hb; clear hb)
    | (refine (HG.out _ hbw).mono ?_; rintro e w'' ⟨rfl, hb2⟩; have hbz := hbw.trans (hb2.mono hbw.size)))
  all_goals go_wp2
  all_goals go_ret
  all_goals exact ⟨rfl, hbz⟩
end Go.Proofs.Ytghgdekdbbogkaa
