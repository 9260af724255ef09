import Derived.Test.YtfkcpilkhdbpoaaGreatDoorFB
import Derived.Test.YtfkcpilkhdbpoaaGreatDoorFE
namespace Go.Proofs.YtfkcpilkhdbpoaaGreatDoor.S5
open Go.RowKit IM
set_option linter.unusedVariables false
theorem beq_dec (a b : Int) : (a == b) = decide (a = b) := by
  by_cases h : a = b
  · subst h; simp
  · simp [h]
theorem bel_dr {B : Nat} {w w1 w' : World} (h : Below B w w1) (hb : Below w1.drew.heap.size w1.drew w') (hs : B ≤ w1.heap.size) : Below B w w' := (Below.drew h).trans (hb.mono hs)
theorem risesB_iff (W C : Nat) (l : List UInt8) : risesB W C l = true ↔ ∀ i, i + 1 < C → numAt W l i < numAt W l (i + 1) := by
  unfold risesB
  rw [decide_eq_true_eq]
  constructor
  · intro h i hi; exact h i (by omega)
  · intro h i hi; exact h i (by omega)
theorem parse_set (p : ByteArray) (W : Nat) (l : List Int) (h : IsSet p.data.toList W l) (w : World) :
    Calls Tryz.prog 379 #[.string p] w fun e w' => e = .returned (.tuple #[setV p W l.length, .bool true]) ∧ Below w.heap.size w w' := by
  have ho := h.ok
  have e1 := h.wid_eq; have e2 := h.cnt_eq
  have hl := ho.len; have h8 := ho.len8
  rw [list_len] at hl h8
  have hp : p.size ≤ 9223372036854775807 := by
    have : cnt p.data.toList * wid p.data.toList ≤ 1048576 * 8 := Nat.mul_le_mul ho.many (by rcases ho.w3 with h | h | h <;> omega)
    omega
  have := parse_ok p h8 hp ho.w3 ho.many hl ((risesB_iff _ _ _).2 ho.rise) w
  rw [e1, e2] at this
  exact this
theorem parse_none (p : ByteArray) (hp : p.size ≤ 9223372036854775807) (h : ¬ OkP p.data.toList) (w : World) :
    Calls Tryz.prog 379 #[.string p] w fun e w' => e = .returned (.tuple #[setV ⟨#[]⟩ 0 0, .bool false]) ∧ Below w.heap.size w w' := by
  by_cases h8 : p.size < 8
  · exact parse_short p h8 w
  · by_cases h3 : W3 (wid p.data.toList)
    · by_cases hm : cnt p.data.toList ≤ 1048576
      · by_cases hl : p.size = 8 + cnt p.data.toList * wid p.data.toList
        · cases hr : risesB (wid p.data.toList) (cnt p.data.toList) p.data.toList with
          | false => exact parse_r p (by omega) hp h3 hm hl hr w
          | true => exact absurd ⟨by rw [list_len]; omega, h3, hm, by rw [list_len]; exact hl, (risesB_iff _ _ _).1 hr⟩ h
        · exact parse_l p (by omega) hp h3 hm hl w
      · exact parse_c p (by omega) hp h3 (by omega) w
    · exact parse_w p (by omega) hp h3 w
theorem set_size {p : ByteArray} {W : Nat} {l : List Int} (h : IsSet p.data.toList W l) : p.size = 8 + l.length * W := by rw [← list_len]; exact h.size
theorem pos_of {l : List Int} {n : Int} {r : Nat} (N : Nat → Int) (hN : ∀ t, (h : t < l.length) → N t = l[t]) (hr : r ≤ l.length) (h1 : ∀ t, t < r → decide (n ≤ N t) = false) (h2 : ∀ t, r ≤ t → t < l.length → decide (n ≤ N t) = true) : r = pos l n := by
  refine (pos_eq l n r hr ?_ ?_).symm
  · intro j hj hjr
    have := of_decide_eq_false (h1 j hjr); rw [hN j hj] at this; omega
  · intro j hj hjr
    have := of_decide_eq_true (h2 j hjr hj); rw [hN j hj] at this; exact this
theorem mem_pos {l : List Int} (hr : Rise l) (n : Int) (N : Nat → Int) (hN : ∀ t, (h : t < l.length) → N t = l[t]) : decide (n ∈ l) = (decide (pos l n < l.length) && decide (N (pos l n) = n)) := by
  rw [Bool.eq_iff_iff, Bool.and_eq_true, decide_eq_true_eq, decide_eq_true_eq, decide_eq_true_eq, pos_mem hr n]
  constructor
  · rintro ⟨h, e⟩; exact ⟨h, by rw [hN _ h]; exact e⟩
  · rintro ⟨h, e⟩; exact ⟨h, by rw [hN _ h] at e; exact e⟩
set_option maxHeartbeats 400000 in
set_option maxRecDepth 100000 in
theorem find_any (p : ByteArray) (W : Nat) (l : List Int) (h : IsSet p.data.toList W l) (n : Int) (w : World) :
    Calls Tryz.prog 512 #[setV p W l.length, .int .i64 n] w fun e w' => e = .returned (.tuple #[.int .i64 (pos l n : Nat), .bool (decide (n ∈ l))]) ∧ Below w.heap.size w w' := by
  have hs := set_size h
  have hp : p.size ≤ 4294967296 := by
    have : l.length * W ≤ 1048576 * 8 := Nat.mul_le_mul h.len (by rcases h.w3 with rfl | rfl | rfl <;> omega)
    omega
  have hN := h.at
  have hmono : ∀ a b, a ≤ b → b < l.length → decide (n ≤ numAt W p.data.toList a) = true → decide (n ≤ numAt W p.data.toList b) = true := by
    intro a b hab hb ha
    rw [hN a (by omega), decide_eq_true_eq] at ha
    rw [hN b hb, decide_eq_true_eq]
    rcases Nat.eq_or_lt_of_le hab with e | hlt
    · subst e; exact ha
    · have := h.rise.lt a b hlt hb; omega
  have HA : Hid (∀ i, i < l.length → ∀ W', Calls Tryz.prog 380 #[setV p W l.length, .int .i64 i] W' fun e w' => e = .returned (.int .i64 (numAt W p.data.toList i)) ∧ Below W'.heap.size W' w') := fun i hi W' => at_any p W _ i h.w3 (place_le hi hs) hp W'
  have HM : Hid _ := mem_pos h.rise n (numAt W p.data.toList) hN
  have HP : Hid (∀ r, r ≤ l.length → (∀ t, t < r → decide (n ≤ numAt W p.data.toList t) = false) → (∀ t, r ≤ t → t < l.length → decide (n ≤ numAt W p.data.toList t) = true) → r = pos l n) := fun r hr h1 h2 => pos_of (numAt W p.data.toList) hN hr h1 h2
  have H3 : Hid (W3 W) := h.w3
  have hlen := h.len
  have hple := pos_le l n
  have HMO : Hid _ := hmono
  clear h hN hmono
  generalize hX : pos l n = X at *
  unfold setV at *
  obtain ⟨W0, hW0⟩ : ∃ W0, W0 = (w.alloc (.cells #[.string p, .int .i64 (W : Int), .int .i64 (l.length : Int)] 507)).alloc (.cells #[.int .i64 n] 3) := ⟨_, rfl⟩
  have hz : W0.heap.size = w.heap.size + 1 + 1 := by rw [hW0]; simp
  have K0 : Hid (W0.cell? ⟨w.heap.size, 0, none⟩ = some (.string p)) := by rw [hW0]; exact (by simp [go_sem] : ((w.alloc (.cells #[.string p, .int .i64 (W : Int), .int .i64 (l.length : Int)] 507)).alloc (.cells #[.int .i64 n] 3)).cell? ⟨w.heap.size, 0, none⟩ = some (.string p))
  have K1 : Hid (W0.cell? ⟨w.heap.size, 1, none⟩ = some (.int .i64 (W : Int))) := by rw [hW0]; exact (by simp [go_sem] : ((w.alloc (.cells #[.string p, .int .i64 (W : Int), .int .i64 (l.length : Int)] 507)).alloc (.cells #[.int .i64 n] 3)).cell? ⟨w.heap.size, 1, none⟩ = some (.int .i64 (W : Int)))
  have K2 : Hid (W0.cell? ⟨w.heap.size, 2, none⟩ = some (.int .i64 (l.length : Int))) := by rw [hW0]; exact (by simp [go_sem] : ((w.alloc (.cells #[.string p, .int .i64 (W : Int), .int .i64 (l.length : Int)] 507)).alloc (.cells #[.int .i64 n] 3)).cell? ⟨w.heap.size, 2, none⟩ = some (.int .i64 (l.length : Int)))
  have KF : Hid (W0.cell? ⟨w.heap.size + 1, 0, none⟩ = some (.int .i64 n)) := by rw [hW0]; exact (by simp [go_sem] : ((w.alloc (.cells #[.string p, .int .i64 (W : Int), .int .i64 (l.length : Int)] 507)).alloc (.cells #[.int .i64 n] 3)).cell? ⟨w.heap.size + 1, 0, none⟩ = some (.int .i64 n))
  have HB0 : Hid (Below w.heap.size w W0) := by rw [hW0]; exact ((Below.refl _ w).alloc (Nat.le_refl _) _).alloc (by simp) _
  go_enter Tryz.func512, Tryz.ntmps512
  go_wp2_with fail
  rw [← hW0]
  refine (first_any 518 #[.pointer (some ⟨w.heap.size + 1, 0, none⟩)] p W l.length (fun m => decide (n ≤ m)) H3.out hlen hs W0 (enters_my Tryz.func518 (by kernel_rfl) rfl)
    (fun m W' hW' => geq_any (w.heap.size + 1) m n W' ((cell_below hW' (by rw [hz]; show w.heap.size + 1 < _; omega)).trans KF.out)) HMO.out).mono ?_
  rintro e w1 ⟨r, rfl, hr, h1, h2, hb⟩
  have hrX := HP.out r hr h1 h2
  subst hrX
  have hz1 := hb.size
  have k0 : w1.cell? ⟨w.heap.size, 0, none⟩ = some (.string p) := (cell_below hb (by rw [hz]; show w.heap.size < _; omega)).trans K0.out
  have k1 : w1.cell? ⟨w.heap.size, 1, none⟩ = some (.int .i64 (W : Int)) := (cell_below hb (by rw [hz]; show w.heap.size < _; omega)).trans K1.out
  have k2 : w1.cell? ⟨w.heap.size, 2, none⟩ = some (.int .i64 (l.length : Int)) := (cell_below hb (by rw [hz]; show w.heap.size < _; omega)).trans K2.out
  have kf : w1.cell? ⟨w.heap.size + 1, 0, none⟩ = some (.int .i64 n) := (cell_below hb (by rw [hz]; show w.heap.size + 1 < _; omega)).trans KF.out
  have HB : Hid (Below w.heap.size w w1) := HB0.out.trans (hb.mono (by omega))
  clear h1 h2 hb
  by_cases hlt : r < l.length
  · have hlz : (r : Int) < (l.length : Int) := by omega
    have hlb : decide ((r : Int) < (l.length : Int)) = true := decide_eq_true hlz
    have HMT : Hid (decide (n ∈ l) = (numAt W p.data.toList r == n)) := by rw [HM.out, decide_eq_true hlt, Bool.true_and]; exact (beq_dec _ _).symm
    have hw1 : w.heap.size + 1 + 1 ≤ w1.heap.size := by omega
    go_wp2
    go_region_with (go_at_call 380; refine (HA.out r hlt _).mono ?_; rintro e w' ⟨rfl, hb⟩; have kf' : w'.cell? ⟨w.heap.size + 1, 0, none⟩ = some (.int .i64 n) := (cell_below hb (show w.heap.size + 1 < w1.heap.size by omega)).trans kf; have k2' : w'.cell? ⟨w.heap.size, 2, none⟩ = some (.int .i64 (l.length : Int)) := (cell_below hb (show w.heap.size < w1.heap.size by omega)).trans k2; have hbz : Below w.heap.size w w' := bel_dr HB.out hb (by omega); clear hb)
    all_goals go_wp2
    all_goals go_ret2
    all_goals exact ⟨by rw [HMT.out]; rfl, hbz⟩
  · have hlb : decide ((r : Int) < (l.length : Int)) = false := decide_eq_false (by omega)
    have HMT : Hid (decide (n ∈ l) = false) := by rw [HM.out, decide_eq_false hlt, Bool.false_and]; exact rfl
    go_wp2
    go_quiet (fail)
    go_wp2
    go_ret2
    exact ⟨by rw [HMT.out]; rfl, below_dn HB.out _⟩
end Go.Proofs.YtfkcpilkhdbpoaaGreatDoor.S5
