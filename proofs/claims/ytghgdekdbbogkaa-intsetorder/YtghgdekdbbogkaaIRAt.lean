import Derived.Test.YtghgdekdbbogkaaIRead2
import Derived.Test.YtghgdekdbbogkaaIRead4
import Derived.Test.YtghgdekdbbogkaaIRead8
namespace Go.Proofs.Ytghgdekdbbogkaa
open Go.RowKit IM
set_option linter.unusedVariables false
theorem rise_nums {W C : Nat} {p : List UInt8} (h : ∀ i, i + 1 < C → numAt W p i < numAt W p (i + 1)) : Rise (nums W C p) := by
  refine rise_of fun i hi => ?_
  rw [nums_at, nums_at]
  rw [nums_len] at hi
  exact h i hi
theorem isset_nums {p : List UInt8} {W : Nat} {l : List Int} (h : IsSet p W l) : nums W l.length p = l := by
  refine List.ext_getElem (nums_len _ _ _) fun i h1 h2 => ?_
  rw [nums_at, h.at i h2]
theorem read_any (p : ByteArray) (h : 8 ≤ p.size) (W : Nat) (hW : wid p.data.toList = W) (h3 : W3 W) (hm : cnt p.data.toList ≤ 1048576) (hl : p.size = 8 + cnt p.data.toList * W) (w : World) :
    Calls Try.prog 21 #[.string p] w fun e w' => Below w.heap.size w w' ∧ ((¬ (∀ i, i + 1 < cnt p.data.toList → numAt W p.data.toList i < numAt W p.data.toList (i + 1)) ∧ e = .returned (.tuple #[.int .i64 0, .slice none 0 0, .bool false])) ∨ ((∀ i, i + 1 < cnt p.data.toList → numAt W p.data.toList i < numAt W p.data.toList (i + 1)) ∧ ∃ v, e = .returned (.tuple #[.int .i64 (W : Nat), v, .bool true]) ∧ w'.ownsRow w.heap.size 3 1 v (cnt p.data.toList) (icells (nums W (cnt p.data.toList) p.data.toList)))) := by
  rcases h3 with rfl | rfl | rfl
  · exact readL_2 p h hW hm hl w
  · exact readL_4 p h hW hm hl w
  · exact readL_8 p h hW hm hl w
theorem read_set (p : ByteArray) (W : Nat) (l : List Int) (h : IsSet p.data.toList W l) (w : World) :
    Calls Try.prog 21 #[.string p] w fun e w' => ∃ v, e = .returned (.tuple #[.int .i64 (W : Nat), v, .bool true]) ∧ w'.ownsRow w.heap.size 3 1 v l.length (icells l) ∧ Below w.heap.size w w' := by
  have ho := h.ok
  have e1 := h.wid_eq; have e2 := h.cnt_eq
  have hl := ho.len; have h8 := ho.len8; have hr := ho.rise
  rw [list_len] at hl h8
  rw [e1] at hr hl
  refine (read_any p h8 W e1 h.w3 ho.many hl w).mono ?_
  rintro e w' ⟨hb, ⟨hn, _⟩ | ⟨_, v, rfl, hown⟩⟩
  · exact absurd hr hn
  · rw [e2, isset_nums h] at hown
    exact ⟨v, rfl, hown, hb⟩
theorem read_none (p : ByteArray) (hp : p.size ≤ 9223372036854775807) (h : ¬ OkP p.data.toList) (w : World) :
    Calls Try.prog 21 #[.string p] w fun e w' => e = .returned (.tuple #[.int .i64 0, .slice none 0 0, .bool false]) ∧ Below w.heap.size w w' := by
  by_cases h8 : p.size < 8
  · exact read_short p h8 w
  · by_cases h3 : W3 (wid p.data.toList)
    · by_cases hm : cnt p.data.toList ≤ 1048576
      · by_cases hl : p.size = 8 + cnt p.data.toList * wid p.data.toList
        · refine (read_any p (by omega) _ rfl h3 hm hl w).mono ?_
          rintro e w' ⟨hb, ⟨hn, rfl⟩ | ⟨hr, _⟩⟩
          · exact ⟨rfl, hb⟩
          · exact absurd ⟨by rw [list_len]; omega, h3, hm, by rw [list_len]; exact hl, hr⟩ h
        · exact read_l p (by omega) hp h3 hm hl w
      · exact read_c p (by omega) hp h3 (by omega) w
    · exact read_w p (by omega) hp h3 w
theorem pos_here {l : List Int} (hr : Rise l) (n : Int) (k : Nat) (hk : k < l.length) (h1 : ∀ j, (h : j < l.length) → j < k → l[j] < n) (h2 : n ≤ l[k]) : k = pos l n ∧ decide (n ∈ l) = (l[k] == n) := by
  have e : pos l n = k := pos_eq l n k (by omega) h1 (fun j hj hkj => by
    rcases Nat.eq_or_lt_of_le hkj with e | hlt
    · subst e; exact h2
    · have := hr.lt k j hlt hj; omega)
  refine ⟨e.symm, ?_⟩
  rw [Bool.eq_iff_iff, decide_eq_true_eq, beq_iff_eq, pos_mem hr n]
  constructor
  · rintro ⟨h, ee⟩; simp only [e] at ee; exact ee
  · intro ee; exact ⟨by omega, by simp only [e]; exact ee⟩
theorem pos_gone {l : List Int} (hr : Rise l) (n : Int) (h1 : ∀ j, (h : j < l.length) → l[j] < n) : pos l n = l.length ∧ n ∉ l := by
  have e : pos l n = l.length := pos_eq l n l.length (Nat.le_refl _) (fun j hj _ => h1 j hj) (fun j hj h => by omega)
  refine ⟨e, fun hm => ?_⟩
  obtain ⟨h, _⟩ := (pos_mem hr n).1 hm
  omega
set_option maxHeartbeats 400000 in
set_option maxRecDepth 100000 in
theorem refat_any (v : Value) (l : List Int) (hr : Rise l) (hlen : l.length ≤ 1048576) (n : Int) (w : World) (h : HoldsI w v l) :
    Calls Try.prog 35 #[v, .int .i64 n] w fun e w' => e = .returned (.tuple #[.int .i64 (pos l n : Nat), .bool (decide (n ∈ l))]) ∧ Below w.heap.size w w' := by
  obtain ⟨q, cap, rfl, hc⟩ := h
  have HPH : Hid _ := fun k hk h1 h2 => pos_here hr n k hk h1 h2
  have HPG : Hid _ := pos_gone hr n
  have HC : Hid _ := hc
  clear hc hr
  generalize hX : pos l n = X at *
  generalize hM : decide (n ∈ l) = M at *
  have HMF : Hid (n ∉ l → M = false) := fun h => by rw [← hM]; exact decide_eq_false h
  clear hX hM
  go_enter Try.func35, Try.ntmps35
  go_wp2
  go_loopw [6] (fun ii wr => ∃ k : Nat, k ≤ l.length ∧ ii = .int .i64 k ∧ (∀ j, (h : j < l.length) → j < k → l[j] < n) ∧ wr = w) (fun ii _ => l.length - (intOf ii).toNat)
  case atStart => exact ⟨0, by omega, rfl, by intro j h hj; omega, rfl⟩
  case round =>
    obtain ⟨k, hk, rfl, hup, rfl⟩ := hrel
    have HU : Hid (∀ j, (h : j < l.length) → j < k → l[j] < n) := hup
    clear hup
    by_cases hlt : k < l.length
    · obtain ⟨g, rfl, hcell⟩ := HC.out (by intro e; rw [e] at hlt; simp at hlt)
      have hc := hcell k hlt
      have hkz : (k : Int) < (l.length : Int) := by omega
      clear hcell
      have HPK := fun h2 => HPH.out k hlt HU.out h2
      generalize hx : l[k] = x at hc HPK
      have HX : Hid (l[k] = x) := hx
      have HPX : Hid _ := HPK
      clear hx HPK
      by_cases hge : n ≤ x
      · obtain ⟨e1, e2⟩ := HPX.out hge
        subst e1
        have HE2 : Hid (M = (x == n)) := e2
        clear e2
        go_wp2
        go_quiet (fail)
        go_wp2
        go_ret2
        exact ⟨by rw [HE2.out]; rfl, below_dn (Below.refl _ _) _⟩
      · go_wp2
        go_roundw
        case rel =>
          refine ⟨k + 1, by omega, by go_num, ?_, by first | exact rfl | trivial⟩
          intro j hj hjk
          rcases Nat.lt_or_ge j k with h | h
          · exact HU.out j hj h
          · have : j = k := by omega
            subst this
            rw [HX.out]; omega
        case measure => simp [intOf]; omega
    · have hke : k = l.length := by omega
      obtain ⟨e1, e2⟩ := HPG.out (fun j hj => HU.out j hj (by omega))
      have HMM : Hid (M = false) := HMF.out e2
      subst hke
      subst e1
      clear e2
      go_wp2
      go_ret2
      exact ⟨by rw [HMM.out]; rfl, Below.refl _ _⟩
end Go.Proofs.Ytghgdekdbbogkaa
