import Derived.WalkKit
import Derived.WalkSpells
import Derived.Handy
import Derived.Laws.BytesArg
import Derived.NoCompiler
import Derived.Lib.TrailingZeros
namespace Go.Proofs.YtgbplghokciimaaDoor
open Go.RowKit
set_option linter.unusedVariables false
theorem byl_irrefl : ∀ x : List UInt8, Op.bytesLess x x = false
  | [] => rfl
  | a :: x => by simp [Op.bytesLess, byl_irrefl x]
theorem byl_trans : ∀ x y z : List UInt8, Op.bytesLess x y = true → Op.bytesLess y z = true → Op.bytesLess x z = true
  | _, [], _, h, _ => by simp [Op.bytesLess] at h
  | _, _ :: _, [], _, h => by simp [Op.bytesLess] at h
  | [], _ :: _, _ :: _, _, _ => by simp [Op.bytesLess]
  | a :: x, b :: y, c :: z, h1, h2 => by
    simp only [Op.bytesLess, Bool.or_eq_true, decide_eq_true_eq, Bool.and_eq_true, beq_iff_eq] at h1 h2 ⊢
    rcases h1 with h1 | ⟨rfl, h1⟩ <;> rcases h2 with h2 | ⟨rfl, h2⟩
    · exact Or.inl (UInt8.lt_trans h1 h2)
    · exact Or.inl h1
    · exact Or.inl h2
    · exact Or.inr ⟨rfl, byl_trans x y z h1 h2⟩
theorem byl_tri : ∀ x y : List UInt8, Op.bytesLess x y = false → Op.bytesLess y x = false → x = y
  | [], [], _, _ => rfl
  | [], _ :: _, h, _ => by simp [Op.bytesLess] at h
  | _ :: _, [], _, h => by simp [Op.bytesLess] at h
  | a :: x, b :: y, h1, h2 => by
    simp only [Op.bytesLess, Bool.or_eq_false_iff, decide_eq_false_iff_not, Bool.and_eq_false_iff, beq_eq_false_iff_ne] at h1 h2
    have hab : a = b := UInt8.toNat_inj.1 (by have := h1.1; have := h2.1; rw [UInt8.lt_iff_toNat_lt] at *; omega)
    subst hab
    rw [byl_tri x y (by rcases h1.2 with h | h; exact absurd rfl h; exact h) (by rcases h2.2 with h | h; exact absurd rfl h; exact h)]
def ltB (a b : ByteArray) : Bool := Op.bytesLess a.toList b.toList
theorem ltB_irr (a : ByteArray) : ltB a a = false := byl_irrefl _
theorem ltB_trans {a b c : ByteArray} (h1 : ltB a b = true) (h2 : ltB b c = true) : ltB a c = true := byl_trans _ _ _ h1 h2
theorem ltB_tri {a b : ByteArray} (h1 : ltB a b = false) (h2 : ltB b a = false) : a = b := by
  have := byl_tri _ _ h1 h2
  rw [ByteArray.toList_eq, ByteArray.toList_eq] at this
  exact ByteArray.ext (Array.toList_inj.1 this)
theorem ltB_asym {a b : ByteArray} (h : ltB a b = true) : ltB b a = false := by
  rcases h2 : ltB b a with _ | _
  · rfl
  · have := ltB_trans h h2; rw [ltB_irr] at this; cases this
/-- a member, its score, what it bears. -/
abbrev En := ByteArray × Int × Int
/-- a stands ahead of b. -/
def ahd (a b : En) : Bool := decide (a.2.1 < b.2.1) || (decide (a.2.1 = b.2.1) && ltB a.1 b.1)
theorem ahd_iff (a b : En) : ahd a b = true ↔ a.2.1 < b.2.1 ∨ (a.2.1 = b.2.1 ∧ ltB a.1 b.1 = true) := by
  unfold ahd; simp
theorem ahd_irr (a : En) : ahd a a = false := by
  rcases h : ahd a a with _ | _
  · rfl
  · rcases (ahd_iff a a).1 h with q | ⟨_, q⟩
    · omega
    · rw [ltB_irr] at q; cases q
theorem ahd_trans {a b c : En} (h1 : ahd a b = true) (h2 : ahd b c = true) : ahd a c = true := by
  rw [ahd_iff] at *
  rcases h1 with h1 | ⟨h1, h1'⟩ <;> rcases h2 with h2 | ⟨h2, h2'⟩
  · exact Or.inl (by omega)
  · exact Or.inl (by omega)
  · exact Or.inl (by omega)
  · exact Or.inr ⟨by omega, ltB_trans h1' h2'⟩
theorem ahd_asym {a b : En} (h : ahd a b = true) : ahd b a = false := by
  rcases h2 : ahd b a with _ | _
  · rfl
  · have := ahd_trans h h2; rw [ahd_irr] at this; cases this
/-- of two members one stands ahead. -/
theorem ahd_tri {a b : En} (h1 : ahd a b = false) (h2 : ahd b a = false) : a.1 = b.1 := by
  by_cases hs : a.2.1 = b.2.1
  · refine ltB_tri ?_ ?_
    · rcases q : ltB a.1 b.1 with _ | _
      · rfl
      · rw [(ahd_iff a b).2 (Or.inr ⟨hs, q⟩)] at h1; cases h1
    · rcases q : ltB b.1 a.1 with _ | _
      · rfl
      · rw [(ahd_iff b a).2 (Or.inr ⟨hs.symm, q⟩)] at h2; cases h2
  · rcases Int.lt_or_gt_of_ne hs with q | q
    · rw [(ahd_iff a b).2 (Or.inl q)] at h1; cases h1
    · rw [(ahd_iff b a).2 (Or.inl q)] at h2; cases h2
/-- the members in order, none twice. -/
structure Brd (L : List En) : Prop where
  up : L.Pairwise fun a b => ahd a b = true
  nd : (L.map (·.1)).Nodup
def dropM (L : List En) (m : ByteArray) : List En := L.filter fun e => decide (e.1 ≠ m)
/-- how many stand ahead of x. -/
def plc (L : List En) (x : En) : Nat := (L.takeWhile fun y => ahd y x).length
def insM (L : List En) (x : En) : List En := L.take (plc L x) ++ x :: L.drop (plc L x)
def setM (L : List En) (m : ByteArray) (s v : Int) : List En := insM (dropM L m) (m, s, v)
theorem dropM_brd {L : List En} (h : Brd L) (m : ByteArray) : Brd (dropM L m) :=
  ⟨h.up.sublist List.filter_sublist, h.nd.sublist (List.Sublist.map _ List.filter_sublist)⟩
theorem dropM_no (L : List En) (m : ByteArray) : ∀ e ∈ dropM L m, e.1 ≠ m := fun e he => by
  have := (List.mem_filter.1 he).2
  simpa using this
theorem plc_parts (L : List En) (x : En) : L.take (plc L x) = L.takeWhile (fun y => ahd y x) ∧ L.drop (plc L x) = L.dropWhile (fun y => ahd y x) := by
  unfold plc
  have h := List.takeWhile_append_dropWhile (p := fun y : En => ahd y x) (l := L)
  constructor
  · have q := List.take_left (l₁ := L.takeWhile (fun y => ahd y x)) (l₂ := L.dropWhile (fun y => ahd y x))
    rw [h] at q; exact q
  · have q := List.drop_left (l₁ := L.takeWhile (fun y => ahd y x)) (l₂ := L.dropWhile (fun y => ahd y x))
    rw [h] at q; exact q
theorem plc_le (L : List En) (x : En) : plc L x ≤ L.length := by unfold plc; exact (List.takeWhile_sublist _).length_le
theorem plc_lo (L : List En) (x : En) : ∀ e ∈ L.take (plc L x), ahd e x = true := by
  rw [(plc_parts L x).1]; intro e he; exact List.all_eq_true.1 (List.all_takeWhile (p := fun y : En => ahd y x) (l := L)) e he
theorem plc_hi {L : List En} (h : L.Pairwise fun a b => ahd a b = true) (x : En) : ∀ e ∈ L.drop (plc L x), ahd e x = false := by
  rw [(plc_parts L x).2]
  induction L with
  | nil => simp
  | cons a L ih =>
    obtain ⟨h1, h2⟩ := List.pairwise_cons.1 h
    rw [List.dropWhile_cons]
    rcases ha : ahd a x with _ | _
    · intro e he
      simp only [Bool.false_eq_true, if_false] at he
      rcases List.mem_cons.1 he with rfl | he
      · exact ha
      · rcases hq : ahd e x with _ | _
        · rfl
        · have := ahd_trans (h1 e he) hq
          rw [ha] at this; cases this
    · simpa using ih h2
theorem insM_brd {L : List En} (h : Brd L) {x : En} (hx : ∀ e ∈ L, e.1 ≠ x.1) : Brd (insM L x) := by
  unfold insM
  have hs : (L.take (plc L x) ++ L.drop (plc L x)).Pairwise fun a b => ahd a b = true := by rw [List.take_append_drop]; exact h.up
  obtain ⟨p1, p2, p3⟩ := List.pairwise_append.1 hs
  refine ⟨List.pairwise_append.2 ⟨p1, List.pairwise_cons.2 ⟨fun e he => ?_, p2⟩, fun a ha b hb => ?_⟩, ?_⟩
  · have h1 := plc_hi h.up x e he
    rcases h2 : ahd x e with _ | _
    · exact absurd (ahd_tri h1 h2) (hx e (List.mem_of_mem_drop he))
    · rfl
  · rcases List.mem_cons.1 hb with rfl | hb
    · exact plc_lo L b a ha
    · exact p3 a ha b hb
  · have hp : (L.take (plc L x) ++ x :: L.drop (plc L x)).Perm (x :: L) := by
      have := List.perm_middle (a := x) (l₁ := L.take (plc L x)) (l₂ := L.drop (plc L x))
      rwa [List.take_append_drop] at this
    rw [(hp.map _).nodup_iff, List.map_cons]
    exact List.nodup_cons.2 ⟨fun hm => by
      obtain ⟨e, he, q⟩ := List.mem_map.1 hm
      exact hx e he q, h.nd⟩
theorem setM_brd {L : List En} (h : Brd L) (m : ByteArray) (s v : Int) : Brd (setM L m s v) := insM_brd (dropM_brd h m) (dropM_no L m)
/-- the document's way to insert: ahead of the first that x stands ahead of. -/
theorem ins_first {L : List En} (h : Brd L) {x : En} (hx : ∀ e ∈ L, e.1 ≠ x.1) : plc L x = (L.takeWhile fun y => !ahd x y).length := by
  unfold plc
  congr 1
  have key : ∀ (M : List En), (∀ e ∈ M, e.1 ≠ x.1) → M.takeWhile (fun y => ahd y x) = M.takeWhile (fun y => !ahd x y) := by
    intro M hM
    induction M with
    | nil => rfl
    | cons a M ih =>
      rw [List.takeWhile_cons, List.takeWhile_cons, ih (fun e he => hM e (List.mem_cons_of_mem _ he))]
      rcases h1 : ahd a x with _ | _
      · rcases h2 : ahd x a with _ | _
        · exact absurd (ahd_tri h1 h2) (hM a (by simp))
        · rfl
      · rw [ahd_asym h1]; rfl
  exact key L hx
/-- heights as a list; the head stands at place 0, at every level. -/
def Stand (hs : List Nat) (l p : Nat) : Prop := p = 0 ∨ ∃ h, hs[p - 1]? = some h ∧ l < h
theorem Stand.le {hs : List Nat} {l p : Nat} (h : Stand hs l p) : p ≤ hs.length := by
  rcases h with rfl | ⟨h, e, _⟩
  · exact Nat.zero_le _
  · have := (List.getElem?_eq_some_iff.1 e).1
    omega
theorem Stand.down {hs : List Nat} {l k p : Nat} (h : Stand hs l p) (hk : k ≤ l) : Stand hs k p := by
  rcases h with h | ⟨h, e, hl⟩
  · exact Or.inl h
  · exact Or.inr ⟨h, e, by omega⟩
/-- the last place up to k at that level. -/
structure IsPrv (hs : List Nat) (l k p : Nat) : Prop where
  le : p ≤ k
  at_ : Stand hs l p
  last : ∀ r, p < r → r ≤ k → ¬ Stand hs l r
/-- the next place at that level; one behind the last: none. -/
structure IsNxt (hs : List Nat) (l p q : Nat) : Prop where
  lt : p < q
  le : q ≤ hs.length + 1
  at_ : q ≤ hs.length → Stand hs l q
  none : ∀ r, p < r → r < q → ¬ Stand hs l r
theorem IsPrv.one {hs : List Nat} {l k p p' : Nat} (h : IsPrv hs l k p) (h' : IsPrv hs l k p') : p = p' := by
  rcases Nat.lt_trichotomy p p' with q | q | q
  · exact absurd h'.at_ (h.last p' q h'.le)
  · exact q
  · exact absurd h.at_ (h'.last p q h.le)
theorem IsNxt.one {hs : List Nat} {l p q q' : Nat} (h : IsNxt hs l p q) (h' : IsNxt hs l p q') : q = q' := by
  rcases Nat.lt_trichotomy q q' with r | r | r
  · have := h'.le
    exact absurd (h.at_ (by omega)) (h'.none q h.lt r)
  · exact r
  · have := h.le
    exact absurd (h'.at_ (by omega)) (h.none q' h'.lt r)
/-- a step of a search: the next one is still ahead. -/
theorem IsNxt.go {hs : List Nat} {l p q k : Nat} (h : IsNxt hs l p q) (hq : q ≤ k) (hk : k ≤ hs.length) : Stand hs l q ∧ q ≤ k ∧ p < q := ⟨h.at_ (by omega), hq, h.lt⟩
/-- a search at a level is over. -/
theorem IsNxt.stop {hs : List Nat} {l p q k : Nat} (h : IsNxt hs l p q) (hp : Stand hs l p) (hpk : p ≤ k) (hq : k < q) : IsPrv hs l k p := ⟨hpk, hp, fun r h1 h2 => h.none r h1 (by omega)⟩
theorem stand_dec (hs : List Nat) (l p : Nat) : Stand hs l p ∨ ¬ Stand hs l p := Classical.em _
theorem nxt_ex (hs : List Nat) (l p : Nat) (hp : p ≤ hs.length) : ∃ q, IsNxt hs l p q := by
  have key : ∀ n q, q + n = hs.length + 1 → p < q → (∀ r, p < r → r < q → ¬ Stand hs l r) → ∃ q, IsNxt hs l p q := by
    intro n
    induction n with
    | zero => intro q hq hpq hno; exact ⟨q, hpq, by omega, fun h => by omega, hno⟩
    | succ n ih =>
      intro q hq hpq hno
      rcases stand_dec hs l q with h | h
      · exact ⟨q, hpq, by omega, fun _ => h, hno⟩
      · refine ih (q + 1) (by omega) (by omega) (fun r h1 h2 => ?_)
        rcases Nat.lt_or_ge r q with h3 | h3
        · exact hno r h1 h3
        · have : r = q := by omega
          subst this; exact h
  exact key (hs.length - p) (p + 1) (by omega) (by omega) (fun r h1 h2 => by omega)
/-- a tower of height h put in behind k places. -/
def insH (hs : List Nat) (k h : Nat) : List Nat := hs.take k ++ h :: hs.drop k
theorem insH_len (hs : List Nat) (k h : Nat) : (insH hs k h).length = hs.length + 1 := by
  unfold insH
  have := congrArg List.length (List.take_append_drop k hs)
  rw [List.length_append] at this
  rw [List.length_append, List.length_cons]; omega
theorem insH_lo {hs : List Nat} {k h l r : Nat} (hk : k ≤ hs.length) (hr : r ≤ k) : Stand (insH hs k h) l r ↔ Stand hs l r := by
  unfold Stand insH
  rcases Nat.eq_zero_or_pos r with rfl | h0
  · simp
  · rw [List.getElem?_append_left (by rw [List.length_take]; omega), List.getElem?_take_of_lt (by omega)]
theorem insH_at {hs : List Nat} {k h l : Nat} (hk : k ≤ hs.length) : Stand (insH hs k h) l (k + 1) ↔ l < h := by
  unfold Stand insH
  have hl : (hs.take k).length = k := by rw [List.length_take]; omega
  rw [Nat.add_sub_cancel, List.getElem?_append_right (by omega), hl, Nat.sub_self]
  simp
theorem insH_hi {hs : List Nat} {k h l r : Nat} (hk : k ≤ hs.length) (hr : k < r) : Stand (insH hs k h) l (r + 1) ↔ Stand hs l r := by
  unfold Stand insH
  have hl : (hs.take k).length = k := by rw [List.length_take]; omega
  rw [Nat.add_sub_cancel, List.getElem?_append_right (by omega), hl]
  have e : r - k = (r - k - 1) + 1 := by omega
  rw [e, List.getElem?_cons_succ, List.getElem?_drop, show k + (r - k - 1) = r - 1 by omega]
  constructor
  · rintro (q | q)
    · omega
    · exact Or.inr q
  · rintro (q | q)
    · omega
    · exact Or.inr q
/-- links behind a tower was put in: the last one ahead of it leads to it, and it on, where it is as high. -/
theorem ins_to {hs : List Nat} {k h l p : Nat} (hk : k ≤ hs.length) (hp : IsPrv hs l k p) (hl : l < h) : IsNxt (insH hs k h) l p (k + 1) := by
  refine ⟨by have := hp.le; omega, by rw [insH_len]; omega, fun _ => (insH_at hk).2 hl, fun r h1 h2 hs' => ?_⟩
  exact hp.last r h1 (by omega) ((insH_lo hk (by omega)).1 hs')
theorem nxt_over {hs : List Nat} {k l p q : Nat} (hk : k ≤ hs.length) (hp : IsPrv hs l k p) (hq : IsNxt hs l p q) : k < q := by
  rcases Nat.lt_or_ge k q with h | h
  · exact h
  · exact absurd (hq.at_ (by omega)) (hp.last q hq.lt h)
theorem ins_on {hs : List Nat} {k h l p q : Nat} (hk : k ≤ hs.length) (hp : IsPrv hs l k p) (hq : IsNxt hs l p q) : IsNxt (insH hs k h) l (k + 1) (q + 1) := by
  have hkq := nxt_over hk hp hq
  refine ⟨by omega, by rw [insH_len]; have := hq.le; omega, fun hle => ?_, fun r h1 h2 hs' => ?_⟩
  · rw [insH_len] at hle
    exact (insH_hi hk hkq).2 (hq.at_ (by omega))
  · have e : r = (r - 1) + 1 := by omega
    rw [e] at hs'
    exact hq.none (r - 1) (by have := hp.le; omega) (by omega) ((insH_hi hk (by omega)).1 hs')
theorem ins_past {hs : List Nat} {k h l p q : Nat} (hk : k ≤ hs.length) (hp : IsPrv hs l k p) (hq : IsNxt hs l p q) (hl : ¬ l < h) : IsNxt (insH hs k h) l p (q + 1) := by
  have hkq := nxt_over hk hp hq
  refine ⟨by have := hq.lt; omega, by rw [insH_len]; have := hq.le; omega, fun hle => ?_, fun r h1 h2 hs' => ?_⟩
  · rw [insH_len] at hle
    exact (insH_hi hk hkq).2 (hq.at_ (by omega))
  · rcases Nat.lt_trichotomy r (k + 1) with h3 | h3 | h3
    · exact hp.last r h1 (by omega) ((insH_lo hk (by omega)).1 hs')
    · subst h3; exact hl ((insH_at hk).1 hs')
    · have e : r = (r - 1) + 1 := by omega
      rw [e] at hs'
      exact hq.none (r - 1) (by have := hp.le; omega) (by omega) ((insH_hi hk (by omega)).1 hs')
theorem ins_lower {hs : List Nat} {k h l p q : Nat} (hk : k ≤ hs.length) (hq : IsNxt hs l p q) (hqk : q ≤ k) : IsNxt (insH hs k h) l p q :=
  ⟨hq.lt, by rw [insH_len]; omega, fun _ => (insH_lo hk hqk).2 (hq.at_ (by omega)), fun r h1 h2 hs' => hq.none r h1 h2 ((insH_lo hk (by omega)).1 hs')⟩
theorem ins_upper {hs : List Nat} {k h l p q : Nat} (hk : k ≤ hs.length) (hq : IsNxt hs l p q) (hpk : k < p) : IsNxt (insH hs k h) l (p + 1) (q + 1) := by
  have := hq.lt
  refine ⟨by omega, by rw [insH_len]; have := hq.le; omega, fun hle => ?_, fun r h1 h2 hs' => ?_⟩
  · rw [insH_len] at hle
    exact (insH_hi hk (by omega)).2 (hq.at_ (by omega))
  · have e : r = (r - 1) + 1 := by omega
    rw [e] at hs'
    exact hq.none (r - 1) (by omega) (by omega) ((insH_hi hk (by omega)).1 hs')
/-- any other tower that stands at that level ahead of the place leads no further than the last one there. -/
theorem nxt_to_prv {hs : List Nat} {k l p p' q : Nat} (hk : k ≤ hs.length) (hp : IsPrv hs l k p) (hp' : p' < p) (hq : IsNxt hs l p' q) : q ≤ p := by
  rcases Nat.lt_or_ge p q with h | h
  · exact absurd hp.at_ (hq.none p hp' h)
  · exact h
/-- and back: a tower taken out. -/
theorem del_lower {hs : List Nat} {k h l p q : Nat} (hk : k ≤ hs.length) (hq : IsNxt (insH hs k h) l p q) (hqk : q ≤ k) : IsNxt hs l p q :=
  ⟨hq.lt, by omega, fun _ => (insH_lo hk hqk).1 (hq.at_ (by rw [insH_len]; omega)), fun r h1 h2 hs' => hq.none r h1 h2 ((insH_lo hk (by omega)).2 hs')⟩
theorem del_upper {hs : List Nat} {k h l p q : Nat} (hk : k ≤ hs.length) (hq : IsNxt (insH hs k h) l (p + 1) (q + 1)) (hpk : k < p) : IsNxt hs l p q := by
  have := hq.lt
  have hle := hq.le
  rw [insH_len] at hle
  refine ⟨by omega, by omega, fun h1 => ?_, fun r h1 h2 hs' => ?_⟩
  · exact (insH_hi hk (by omega)).1 (hq.at_ (by rw [insH_len]; omega))
  · exact hq.none (r + 1) (by omega) (by omega) ((insH_hi hk (by omega)).2 hs')
theorem del_on {hs : List Nat} {k h l p q : Nat} (hk : k ≤ hs.length) (hp : IsPrv hs l k p) (hq : IsNxt (insH hs k h) l (k + 1) (q + 1)) : IsNxt hs l p q := by
  have hlt := hq.lt
  have hle := hq.le
  rw [insH_len] at hle
  have := hp.le
  refine ⟨by omega, by omega, fun h1 => (insH_hi hk (by omega)).1 (hq.at_ (by rw [insH_len]; omega)), fun r h1 h2 hs' => ?_⟩
  rcases Nat.lt_or_ge k r with h3 | h3
  · exact hq.none (r + 1) (by omega) (by omega) ((insH_hi hk h3).2 hs')
  · exact hp.last r h1 h3 hs'
theorem del_past {hs : List Nat} {k h l p q : Nat} (hk : k ≤ hs.length) (hp : IsPrv hs l k p) (hl : ¬ l < h) (hq : IsNxt (insH hs k h) l p (q + 1)) : IsNxt hs l p q := by
  have hlt := hq.lt
  have hle := hq.le
  rw [insH_len] at hle
  have := hp.le
  have hkq : k < q := by
    rcases Nat.lt_trichotomy q k with h3 | h3 | h3
    · exact absurd ((insH_lo hk (by omega)).1 (hq.at_ (by rw [insH_len]; omega))) (hp.last (q + 1) (by omega) (by omega))
    · subst h3
      exact absurd ((insH_at hk).1 (hq.at_ (by rw [insH_len]; omega))) hl
    · exact h3
  refine ⟨by omega, by omega, fun h1 => (insH_hi hk hkq).1 (hq.at_ (by rw [insH_len]; omega)), fun r h1 h2 hs' => ?_⟩
  rcases Nat.lt_or_ge k r with h3 | h3
  · exact hq.none (r + 1) (by omega) (by omega) ((insH_hi hk h3).2 hs')
  · exact hp.last r h1 h3 hs'
/-- the last place up to k, before a tower was put in behind it and since. -/
theorem ins_prv {hs : List Nat} {k h l p : Nat} (hk : k ≤ hs.length) : IsPrv (insH hs k h) l k p ↔ IsPrv hs l k p :=
  ⟨fun q => ⟨q.le, (insH_lo hk q.le).1 q.at_, fun r h1 h2 hs' => q.last r h1 h2 ((insH_lo hk h2).2 hs')⟩, fun q => ⟨q.le, (insH_lo hk q.le).2 q.at_, fun r h1 h2 hs' => q.last r h1 h2 ((insH_lo hk h2).1 hs')⟩⟩
end Go.Proofs.YtgbplghokciimaaDoor
namespace Go.Proofs.YtgbplghokciimaaDoor
open Go.RowKit
set_option linter.unusedVariables false
theorem tw_spec {α : Type} (f : α → Bool) : ∀ X : List α, (∀ i (h : i < X.length), i < (X.takeWhile f).length → f X[i] = true) ∧ (∀ h : (X.takeWhile f).length < X.length, f X[(X.takeWhile f).length] = false)
  | [] => ⟨fun i h => by simp at h, fun h => by simp at h⟩
  | a :: X => by
    obtain ⟨h1, h2⟩ := tw_spec f X
    rcases ha : f a with _ | _
    · have e : (a :: X).takeWhile f = [] := by simp [ha]
      refine ⟨fun i h hi => by rw [e] at hi; simp at hi, fun h => ?_⟩
      simp only [e, List.length_nil, List.getElem_cons_zero]; exact ha
    · have e : (a :: X).takeWhile f = a :: X.takeWhile f := by simp [ha]
      refine ⟨fun i h hi => ?_, fun h => ?_⟩
      · rw [e] at hi
        cases i with
        | zero => exact ha
        | succ i => exact h1 i (by simpa using h) (by simpa using hi)
      · simp only [e, List.length_cons, List.getElem_cons_succ]
        exact h2 (by rw [e] at h; simpa using h)
/-- the next place at a level. -/
def nx (hs : List Nat) (l p : Nat) : Nat := p + 1 + ((hs.drop p).takeWhile fun h => decide (h ≤ l)).length
theorem nx_is {hs : List Nat} {l p : Nat} (hp : p ≤ hs.length) : IsNxt hs l p (nx hs l p) := by
  obtain ⟨h1, h2⟩ := tw_spec (fun h => decide (h ≤ l)) (hs.drop p)
  have hle : ((hs.drop p).takeWhile fun h => decide (h ≤ l)).length ≤ (hs.drop p).length := (List.takeWhile_sublist _).length_le
  rw [List.length_drop] at hle
  unfold nx
  refine ⟨by omega, by omega, fun h => Or.inr ?_, fun r hr1 hr2 hst => ?_⟩
  · have hlt : ((hs.drop p).takeWhile fun h => decide (h ≤ l)).length < (hs.drop p).length := by rw [List.length_drop]; omega
    have h3 := h2 hlt
    rw [List.getElem_drop] at h3
    refine ⟨_, List.getElem?_eq_getElem (by rw [List.length_drop] at hlt; omega), ?_⟩
    have e : p + 1 + ((hs.drop p).takeWhile fun h => decide (h ≤ l)).length - 1 = p + ((hs.drop p).takeWhile fun h => decide (h ≤ l)).length := by omega
    simp only [e]
    simpa using h3
  · rcases hst with h0 | ⟨h, e, hl⟩
    · omega
    · have hrl : r - 1 - p < (hs.drop p).length := by rw [List.length_drop]; omega
      have h3 := h1 (r - 1 - p) hrl (by omega)
      rw [List.getElem_drop] at h3
      have e2 : p + (r - 1 - p) = r - 1 := by omega
      simp only [e2] at h3
      obtain ⟨hb, e3⟩ := List.getElem?_eq_some_iff.1 e
      rw [e3] at h3
      simp at h3; omega
/-- a tower: its block, the block of its links, its height, its entry. -/
structure Tw where
  b : Nat
  k : Nat
  h : Nat
  e : En
abbrev hts (T : List Tw) : List Nat := T.map Tw.h
def insT (T : List Tw) (k : Nat) (t : Tw) : List Tw := T.take k ++ t :: T.drop k
theorem insT_hts (T : List Tw) (k : Nat) (t : Tw) : hts (insT T k t) = insH (hts T) k t.h := by
  unfold insT insH hts
  rw [List.map_append, List.map_cons, List.map_take, List.map_drop]
theorem insT_len (T : List Tw) (k : Nat) (t : Tw) : (insT T k t).length = T.length + 1 := by
  have := congrArg List.length (insT_hts T k t)
  rw [insH_len] at this
  simpa using this
/-- the tower of a place: the head's, then theirs; behind the last: none. -/
def pAt (hb : Nat) (T : List Tw) : Nat → Option Nat
  | 0 => some hb
  | q + 1 => (T[q]?).map Tw.b
theorem pAt_lo {hb : Nat} {T : List Tw} {k q : Nat} {t : Tw} (hk : k ≤ T.length) (hq : q ≤ k) : pAt hb (insT T k t) q = pAt hb T q := by
  cases q with
  | zero => rfl
  | succ q =>
    show ((T.take k ++ t :: T.drop k)[q]?).map Tw.b = (T[q]?).map Tw.b
    rw [List.getElem?_append_left (by rw [List.length_take]; omega), List.getElem?_take_of_lt (by omega)]
theorem insT_at {T : List Tw} {k : Nat} {t : Tw} (hk : k ≤ T.length) : (insT T k t)[k]? = some t := by
  unfold insT
  have hl : (T.take k).length = k := by rw [List.length_take]; omega
  rw [List.getElem?_append_right (by omega), hl, Nat.sub_self]; rfl
theorem insT_hi {T : List Tw} {k q : Nat} {t : Tw} (hk : k ≤ T.length) (hq : k ≤ q) : (insT T k t)[q + 1]? = T[q]? := by
  unfold insT
  have hl : (T.take k).length = k := by rw [List.length_take]; omega
  rw [List.getElem?_append_right (by omega), hl, show q + 1 - k = (q - k) + 1 by omega, List.getElem?_cons_succ, List.getElem?_drop, show k + (q - k) = q by omega]
theorem insT_lo {T : List Tw} {k q : Nat} {t : Tw} (hk : k ≤ T.length) (hq : q < k) : (insT T k t)[q]? = T[q]? := by
  unfold insT
  rw [List.getElem?_append_left (by rw [List.length_take]; omega), List.getElem?_take_of_lt hq]
theorem pAt_at {hb : Nat} {T : List Tw} {k : Nat} {t : Tw} (hk : k ≤ T.length) : pAt hb (insT T k t) (k + 1) = some t.b := by
  show ((insT T k t)[k]?).map Tw.b = _
  rw [insT_at hk]; rfl
theorem pAt_hi {hb : Nat} {T : List Tw} {k q : Nat} {t : Tw} (hk : k ≤ T.length) (hq : k < q) : pAt hb (insT T k t) (q + 1) = pAt hb T q := by
  cases q with
  | zero => omega
  | succ q =>
    show ((insT T k t)[q + 1]?).map Tw.b = (T[q]?).map Tw.b
    rw [insT_hi hk (by omega)]
/-- a link: where it leads, and over how many places. -/
abbrev Lk := Option Nat × Nat
def lnk (hb : Nat) (T : List Tw) (p l : Nat) : Lk := (pAt hb T (nx (hts T) l p), nx (hts T) l p - p)
theorem hts_len (T : List Tw) : (hts T).length = T.length := by simp
theorem lnk_near {hb : Nat} {T : List Tw} {k p l : Nat} {t : Tw} (hk : k ≤ T.length) (hp : p ≤ k) (hn : nx (hts T) l p ≤ k) : lnk hb (insT T k t) p l = lnk hb T p l := by
  have h1 := nx_is (hs := hts T) (l := l) (p := p) (by rw [hts_len]; omega)
  have h2 := ins_lower (h := t.h) (by rw [hts_len]; exact hk) h1 hn
  have h3 := nx_is (hs := hts (insT T k t)) (l := l) (p := p) (by rw [hts_len, insT_len]; omega)
  rw [← insT_hts] at h2
  have e := h3.one h2
  unfold lnk
  rw [e, pAt_lo hk hn]
theorem lnk_prv {hb : Nat} {T : List Tw} {k p l : Nat} {t : Tw} (hk : k ≤ T.length) (hp : IsPrv (hts T) l k p) : lnk hb (insT T k t) p l = if l < t.h then (some t.b, k + 1 - p) else ((lnk hb T p l).1, (lnk hb T p l).2 + 1) := by
  have hk' : k ≤ (hts T).length := by rw [hts_len]; exact hk
  have h1 := nx_is (hs := hts T) (l := l) (p := p) (Nat.le_trans hp.le hk')
  have h3 := nx_is (hs := hts (insT T k t)) (l := l) (p := p) (by rw [hts_len, insT_len]; have := hp.le; omega)
  by_cases hl : l < t.h
  · rw [if_pos hl]
    have h2 := ins_to (h := t.h) hk' hp hl
    rw [← insT_hts] at h2
    unfold lnk
    rw [h3.one h2, pAt_at hk]
  · rw [if_neg hl]
    have h2 := ins_past (h := t.h) hk' hp h1 hl
    rw [← insT_hts] at h2
    have ho := nxt_over hk' hp h1
    have := h1.lt
    unfold lnk
    rw [h3.one h2, pAt_hi hk ho]
    simp only [Prod.mk.injEq, true_and]; omega
theorem lnk_far {hb : Nat} {T : List Tw} {k p l : Nat} {t : Tw} (hk : k ≤ T.length) (hp : k < p) (hpn : p ≤ T.length) : lnk hb (insT T k t) (p + 1) l = lnk hb T p l := by
  have hk' : k ≤ (hts T).length := by rw [hts_len]; exact hk
  have h1 := nx_is (hs := hts T) (l := l) (p := p) (by rw [hts_len]; exact hpn)
  have h2 := ins_upper (h := t.h) hk' h1 hp
  have h3 := nx_is (hs := hts (insT T k t)) (l := l) (p := p + 1) (by rw [hts_len, insT_len]; omega)
  rw [← insT_hts] at h2
  have := h1.lt
  unfold lnk
  rw [h3.one h2, pAt_hi hk (by omega)]
  simp only [Prod.mk.injEq, true_and]; omega
theorem lnk_new {hb : Nat} {T : List Tw} {k p l : Nat} {t : Tw} (hk : k ≤ T.length) (hp : IsPrv (hts T) l k p) : (lnk hb (insT T k t) (k + 1) l).1 = (lnk hb T p l).1 ∧ (lnk hb (insT T k t) (k + 1) l).2 + (k - p) = (lnk hb T p l).2 := by
  have hk' : k ≤ (hts T).length := by rw [hts_len]; exact hk
  have h1 := nx_is (hs := hts T) (l := l) (p := p) (Nat.le_trans hp.le hk')
  have h2 := ins_on (h := t.h) hk' hp h1
  have h3 := nx_is (hs := hts (insT T k t)) (l := l) (p := k + 1) (by rw [hts_len, insT_len]; omega)
  rw [← insT_hts] at h2
  have ho := nxt_over hk' hp h1
  have := hp.le
  unfold lnk
  rw [h3.one h2, pAt_hi hk ho]
  refine ⟨rfl, ?_⟩
  simp only; omega
/-- who stands at a level, and leads beyond k: the last one up to k. -/
theorem prv_of {hs : List Nat} {l k p : Nat} (hk : k ≤ hs.length) (hp : p ≤ k) (hst : Stand hs l p) (hn : k < nx hs l p) : IsPrv hs l k p := (nx_is (by omega)).stop hst hp hn
theorem prv_far {hs : List Nat} {l k p : Nat} (hk : k ≤ hs.length) (hp : IsPrv hs l k p) : k < nx hs l p := nxt_over hk hp (nx_is (by have := hp.le; omega))
end Go.Proofs.YtgbplghokciimaaDoor
namespace Go.Proofs.YtgbplghokciimaaDoor
open Go.RowKit
set_option linter.unusedVariables false
theorem insT_perm0 (T : List Tw) (k : Nat) (t : Tw) : (insT T k t).Perm (t :: T) := by
  have := List.perm_middle (a := t) (l₁ := T.take k) (l₂ := T.drop k)
  rwa [List.take_append_drop] at this
/-- how many towers are of height j + 1. -/
def cntT (T : List Tw) (j : Nat) : Nat := T.countP fun t => decide (t.h = j + 1)
theorem cntT_ins (T : List Tw) (k : Nat) (t : Tw) (j : Nat) : cntT (insT T k t) j = cntT T j + if t.h = j + 1 then 1 else 0 := by
  unfold cntT
  rw [(insT_perm0 T k t).countP_eq, List.countP_cons]
  simp
theorem cntT_zero {T : List Tw} {j : Nat} (h : cntT T j = 0) : ∀ t ∈ T, t.h ≠ j + 1 := fun t ht => by
  have := List.countP_eq_zero.1 h t ht
  simpa using this
theorem cntT_pos {T : List Tw} {j : Nat} (h : cntT T j ≠ 0) : ∃ t ∈ T, t.h = j + 1 := by
  obtain ⟨t, ht, e⟩ := List.countP_pos_iff.1 (Nat.pos_of_ne_zero h)
  exact ⟨t, ht, by simpa using e⟩
theorem cntT_le (T : List Tw) (j : Nat) : cntT T j ≤ T.length := List.countP_le_length
/-- the greatest height. -/
structure IsTop (T : List Tw) (H : Nat) : Prop where
  le : ∀ x ∈ hts T, x ≤ H
  at_ : H = 0 ∨ ∃ t ∈ T, t.h = H
theorem IsTop.one {T : List Tw} {H H' : Nat} (h : IsTop T H) (h' : IsTop T H') : H = H' := by
  have key : ∀ {A B : Nat}, IsTop T A → IsTop T B → A ≤ B := fun {A B} ha hb => by
    rcases ha.at_ with e | ⟨t, ht, e⟩
    · omega
    · have := hb.le t.h (List.mem_map.2 ⟨t, ht, rfl⟩); omega
  exact Nat.le_antisymm (key h h') (key h' h)
theorem IsTop.ins {T : List Tw} {H : Nat} (h : IsTop T H) (k : Nat) (t : Tw) : IsTop (insT T k t) (max H t.h) := by
  have hp := insT_perm0 T k t
  refine ⟨fun x hx => ?_, ?_⟩
  · have := (hp.map Tw.h).mem_iff.1 hx
    rw [List.map_cons, List.mem_cons] at this
    rcases this with e | e
    · omega
    · have := h.le x e; omega
  · rcases Nat.lt_or_ge H t.h with h1 | h1
    · exact Or.inr ⟨t, hp.mem_iff.2 (by simp), by omega⟩
    · rcases h.at_ with e | ⟨u, hu, e⟩
      · exact Or.inl (by omega)
      · exact Or.inr ⟨u, hp.mem_iff.2 (by simp [hu]), by omega⟩
theorem plc_dec {L : List En} (h : Brd L) (x : En) (q : Nat) (hq : q < L.length) : ahd L[q] x = decide (q < plc L x) := by
  by_cases hk : q < plc L x
  · rw [decide_eq_true hk]
    refine plc_lo L x _ ?_
    exact List.mem_iff_getElem.2 ⟨q, by rw [List.length_take]; omega, by rw [List.getElem_take]⟩
  · rw [decide_eq_false hk]
    refine plc_hi h.up x _ ?_
    exact List.mem_iff_getElem.2 ⟨q - plc L x, by rw [List.length_drop]; omega, by rw [List.getElem_drop]; congr 1; omega⟩
theorem self_dec {L : List En} (h : Brd L) {k q : Nat} (hk : k < L.length) (hq : q < L.length) : ahd L[q] L[k] = decide (q < k) := by
  have hp := List.pairwise_iff_getElem.1 h.up
  rcases Nat.lt_trichotomy q k with h1 | h1 | h1
  · rw [decide_eq_true h1]; exact hp q k hq hk h1
  · subst h1; rw [decide_eq_false (by omega)]; exact ahd_irr _
  · rw [decide_eq_false (by omega)]; exact ahd_asym (hp k q hk hq h1)
abbrev ens (T : List Tw) : List En := T.map Tw.e
theorem ens_len (T : List Tw) : (ens T).length = T.length := by simp
theorem insT_ens (T : List Tw) (k : Nat) (t : Tw) : ens (insT T k t) = (ens T).take k ++ t.e :: (ens T).drop k := by
  unfold insT ens
  rw [List.map_append, List.map_cons, List.map_take, List.map_drop]
theorem insT_insM (T : List Tw) (t : Tw) : ens (insT T (plc (ens T) t.e) t) = insM (ens T) t.e := insT_ens _ _ _
theorem split_at {T : List Tw} {k : Nat} (hk : k < T.length) : ∃ T', T = insT T' k T[k] ∧ T'.length + 1 = T.length ∧ k ≤ T'.length := by
  refine ⟨T.take k ++ T.drop (k + 1), ?_, ?_, ?_⟩
  · unfold insT
    have hl : (T.take k).length = k := by rw [List.length_take]; omega
    have e1 : (T.take k ++ T.drop (k + 1)).take k = T.take k := by
      have := List.take_left (l₁ := T.take k) (l₂ := T.drop (k + 1)); rwa [hl] at this
    have e2 : (T.take k ++ T.drop (k + 1)).drop k = T.drop (k + 1) := by
      have := List.drop_left (l₁ := T.take k) (l₂ := T.drop (k + 1)); rwa [hl] at this
    rw [e1, e2, ← List.drop_eq_getElem_cons hk, List.take_append_drop]
  · rw [List.length_append, List.length_take, List.length_drop]; omega
  · rw [List.length_append, List.length_take, List.length_drop]; omega
theorem dropM_ins {T : List Tw} {k : Nat} {t : Tw} (hn : ((ens (insT T k t)).map (·.1)).Nodup) : dropM (ens (insT T k t)) t.e.1 = ens T := by
  have hp : (((ens (insT T k t)).map (·.1))).Perm (t.e.1 :: (ens T).map (·.1)) := ((insT_perm0 T k t).map Tw.e).map _
  have hno : t.e.1 ∉ (ens T).map (·.1) := (List.nodup_cons.1 (hp.nodup_iff.1 hn)).1
  have hall : ∀ e ∈ ens T, e.1 ≠ t.e.1 := fun e he h => hno (List.mem_map.2 ⟨e, he, h⟩)
  rw [insT_ens]
  unfold dropM
  rw [List.filter_append, List.filter_cons]
  simp only [ne_eq, not_true_eq_false, decide_false, Bool.false_eq_true, if_false]
  rw [← List.filter_append, List.take_append_drop]
  exact List.filter_eq_self.2 (fun e he => by simpa using hall e he)
theorem dropM_none {L : List En} {m : ByteArray} (h : m ∉ L.map (·.1)) : dropM L m = L :=
  List.filter_eq_self.2 (fun e he => by
    have : e.1 ≠ m := fun q => h (List.mem_map.2 ⟨e, he, q⟩)
    simpa using this)
/-- the tower of a member. -/
def towOf (T : List Tw) (m : ByteArray) : Option Nat := (T.find? fun t => decide (t.e.1 = m)).map Tw.b
theorem towOf_none {T : List Tw} {m : ByteArray} (h : towOf T m = none) : m ∉ (ens T).map (·.1) := fun hm => by
  obtain ⟨e, he, rfl⟩ := List.mem_map.1 hm
  obtain ⟨t, ht, rfl⟩ := List.mem_map.1 he
  unfold towOf at h
  have := List.find?_eq_none.1 (Option.map_eq_none_iff.1 h) t ht
  simp at this
theorem towOf_some {T : List Tw} {m : ByteArray} {b : Nat} (h : towOf T m = some b) : ∃ k, ∃ hk : k < T.length, T[k].b = b ∧ T[k].e.1 = m := by
  unfold towOf at h
  obtain ⟨t, ht, rfl⟩ := Option.map_eq_some_iff.1 h
  have h1 := List.find?_some ht
  obtain ⟨k, hk, rfl⟩ := List.mem_iff_getElem.1 (List.mem_of_find?_eq_some ht)
  exact ⟨k, hk, rfl, by simpa using h1⟩
theorem towOf_at {T : List Tw} (hn : ((ens T).map (·.1)).Nodup) {k : Nat} (hk : k < T.length) : towOf T T[k].e.1 = some T[k].b := by
  rcases h : towOf T T[k].e.1 with _ | b
  · exact absurd (List.mem_map.2 ⟨T[k].e, List.mem_map.2 ⟨T[k], List.getElem_mem hk, rfl⟩, rfl⟩) (towOf_none h)
  · obtain ⟨j, hj, hb, hm⟩ := towOf_some h
    rw [List.map_map] at hn
    have : j = k := by
      have hp := List.pairwise_iff_getElem.1 hn
      rcases Nat.lt_trichotomy j k with q | q | q
      · exact absurd (by rw [List.getElem_map, List.getElem_map]; exact hm) (hp j k (by simpa using hj) (by simpa using hk) q)
      · exact q
      · exact absurd (by rw [List.getElem_map, List.getElem_map]; exact hm.symm) (hp k j (by simpa using hk) (by simpa using hj) q)
    subst this; rw [hb]
theorem towOf_iff {T : List Tw} (hn : ((ens T).map (·.1)).Nodup) (m : ByteArray) (b : Nat) : towOf T m = some b ↔ ∃ t ∈ T, t.e.1 = m ∧ t.b = b := by
  constructor
  · intro h
    obtain ⟨k, hk, hb, hm⟩ := towOf_some h
    exact ⟨T[k], List.getElem_mem hk, hm, hb⟩
  · rintro ⟨t, ht, rfl, rfl⟩
    obtain ⟨k, hk, rfl⟩ := List.mem_iff_getElem.1 ht
    exact towOf_at hn hk
theorem towOf_ext {T T' : List Tw} (hn : ((ens T).map (·.1)).Nodup) (hn' : ((ens T').map (·.1)).Nodup) {f : ByteArray → Option Nat} (h : ∀ m b, f m = some b ↔ ∃ t ∈ T', t.e.1 = m ∧ t.b = b) : f = towOf T' := by
  funext m
  rcases h1 : f m with _ | b
  · rcases h2 : towOf T' m with _ | b
    · rfl
    · have := (h m b).2 ((towOf_iff hn' m b).1 h2)
      rw [h1] at this; cases this
  · exact ((towOf_iff hn' m b).2 ((h m b).1 h1)).symm
/-! heights -/
/-- 1 and how often 4 divides, f times at most. -/
def hgtF : Nat → Nat → Nat
  | 0, _ => 1
  | f + 1, h => if h % 4 = 0 then 1 + hgtF f (h / 4) else 1
def hgt (h : Nat) : Nat := hgtF 23 h
theorem hgtF_bd : ∀ f h, 1 ≤ hgtF f h ∧ hgtF f h ≤ f + 1
  | 0, h => ⟨Nat.le_refl _, Nat.le_refl _⟩
  | f + 1, h => by
    unfold hgtF
    have := hgtF_bd f (h / 4)
    split <;> omega
theorem hgt_bd (h : Nat) : 1 ≤ hgt h ∧ hgt h ≤ 24 := hgtF_bd 23 h
theorem hgtF_zero : ∀ f, hgtF f 0 = f + 1
  | 0 => rfl
  | f + 1 => by
    unfold hgtF
    rw [if_pos (by omega), Nat.zero_div, hgtF_zero f]; omega
theorem ctz_hgt : ∀ f g x, 0 < x → 2 * f ≤ g → min (1 + Lib.ctzFrom g x / 2) (f + 1) = hgtF f x
  | 0, g, x, h0, hg => by
    show _ = 1
    omega
  | f + 1, g, x, h0, hg => by
    obtain ⟨g', rfl⟩ : ∃ g', g = g' + 1 + 1 := ⟨g - 2, by omega⟩
    unfold Lib.ctzFrom hgtF
    by_cases h1 : x % 2 = 1
    · rw [if_pos h1, if_neg (by omega)]; omega
    · rw [if_neg h1]
      unfold Lib.ctzFrom
      by_cases h2 : x / 2 % 2 = 1
      · rw [if_pos h2, if_neg (by omega)]; omega
      · rw [if_neg h2, if_pos (by omega), Nat.div_div_eq_div_mul, show 2 * 2 = 4 from rfl]
        have := ctz_hgt f g' (x / 4) (by omega) (by omega)
        rw [← this]
        omega
theorem ctz64_hgt (x : Nat) : min (1 + Lib.ctz 64 x / 2) 24 = hgt x := by
  unfold Lib.ctz hgt
  by_cases h : x = 0
  · subst h; rw [if_pos rfl, hgtF_zero]; rfl
  · rw [if_neg h]; exact ctz_hgt 23 64 x (by omega) (by omega)
end Go.Proofs.YtgbplghokciimaaDoor
namespace Go.Proofs.YtgbplghokciimaaDoor
open Go.RowKit
set_option linter.unusedVariables false
/-- an end of a range of scores: score, inf, open. -/
abbrev SBd := Int × Int × Bool
def loS (s : Int) (b : SBd) : Bool := decide (b.2.1 < 0) || (decide (b.2.1 = 0) && (decide (b.1 < s) || (decide (s = b.1) && !b.2.2)))
def hiS (s : Int) (b : SBd) : Bool := decide (0 < b.2.1) || (decide (b.2.1 = 0) && (decide (s < b.1) || (decide (s = b.1) && !b.2.2)))
/-- an end of a range of members. -/
abbrev LBd := ByteArray × Int × Bool
def loL (m : ByteArray) (b : LBd) : Bool := decide (b.2.1 < 0) || (decide (b.2.1 = 0) && (ltB b.1 m || (decide (m = b.1) && !b.2.2)))
def hiL (m : ByteArray) (b : LBd) : Bool := decide (0 < b.2.1) || (decide (b.2.1 = 0) && (ltB m b.1 || (decide (m = b.1) && !b.2.2)))
theorem down_dec {α : Type} (p : α → Bool) (L : List α) (hm : ∀ i j (hi : i < L.length) (hj : j < L.length), i < j → p L[j] = true → p L[i] = true) : ∀ q (hq : q < L.length), p L[q] = decide (q < (L.takeWhile p).length) := fun q hq => by
  obtain ⟨h1, h2⟩ := tw_spec p L
  by_cases h : q < (L.takeWhile p).length
  · rw [h1 q hq h]; simp [h]
  · have hk : (L.takeWhile p).length < L.length := by omega
    have h3 := h2 hk
    rcases hp : p L[q] with _ | _
    · simp [h]
    · exfalso
      by_cases e : q = (L.takeWhile p).length
      · have : L[q] = L[(L.takeWhile p).length] := by congr 1
        rw [this, h3] at hp; cases hp
      · rw [hm _ q hk hq (by omega) hp] at h3; cases h3
theorem brd_mono {L : List En} (h : Brd L) {i j : Nat} (hi : i < L.length) (hj : j < L.length) (hij : i < j) : L[i].2.1 ≤ L[j].2.1 := by
  have := (List.pairwise_iff_getElem.1 h.up) i j hi hj hij
  rcases (ahd_iff _ _).1 this with q | ⟨q, _⟩ <;> omega
theorem loS_iff (s : Int) (b : SBd) : loS s b = true ↔ b.2.1 < 0 ∨ (b.2.1 = 0 ∧ (b.1 < s ∨ (s = b.1 ∧ b.2.2 = false))) := by
  unfold loS; simp
theorem hiS_iff (s : Int) (b : SBd) : hiS s b = true ↔ 0 < b.2.1 ∨ (b.2.1 = 0 ∧ (s < b.1 ∨ (s = b.1 ∧ b.2.2 = false))) := by
  unfold hiS; simp
/-- how many stand below a range, how many up to its end. -/
def kLo (L : List En) (b : SBd) : Nat := (L.takeWhile fun e => !loS e.2.1 b).length
def kHi (L : List En) (b : SBd) : Nat := (L.takeWhile fun e => hiS e.2.1 b).length
theorem kLo_le (L : List En) (b : SBd) : kLo L b ≤ L.length := (List.takeWhile_sublist _).length_le
theorem kHi_le (L : List En) (b : SBd) : kHi L b ≤ L.length := (List.takeWhile_sublist _).length_le
theorem kLo_dec {L : List En} (h : Brd L) (b : SBd) (q : Nat) (hq : q < L.length) : (!loS L[q].2.1 b) = decide (q < kLo L b) := by
  refine down_dec (fun e : En => !loS e.2.1 b) L (fun i j hi hj hij hp => ?_) q hq
  simp only [Bool.not_eq_true', Bool.eq_false_iff, ne_eq, loS_iff] at hp ⊢
  have := brd_mono h hi hj hij
  rintro (q | ⟨q, r | ⟨r, t⟩⟩)
  · exact hp (.inl q)
  · exact hp (.inr ⟨q, .inl (by omega)⟩)
  · refine hp (.inr ⟨q, ?_⟩)
    by_cases e : b.1 < L[j].2.1
    · exact .inl e
    · exact .inr ⟨by omega, t⟩
theorem kHi_dec {L : List En} (h : Brd L) (b : SBd) (q : Nat) (hq : q < L.length) : hiS L[q].2.1 b = decide (q < kHi L b) := by
  refine down_dec (fun e : En => hiS e.2.1 b) L (fun i j hi hj hij hp => ?_) q hq
  simp only [hiS_iff] at hp ⊢
  have := brd_mono h hi hj hij
  rcases hp with q | ⟨q, r | ⟨r, t⟩⟩
  · exact .inl q
  · exact .inr ⟨q, .inl (by omega)⟩
  · refine .inr ⟨q, ?_⟩
    by_cases e : L[i].2.1 < b.1
    · exact .inl e
    · exact .inr ⟨by omega, t⟩
theorem filt_mid {α : Type} (p : α → Bool) : ∀ (L : List α) (a b : Nat), (∀ q (hq : q < L.length), p L[q] = (decide (a ≤ q) && decide (q < b))) → L.filter p = (L.take b).drop a
  | [], a, b, h => by simp
  | x :: L, a, b, h => by
    have h0 := h 0 (by simp)
    have hs : ∀ q (hq : q < L.length), p L[q] = (decide (a - 1 ≤ q) && decide (q < b - 1)) := fun q hq => by
      have := h (q + 1) (by simpa using hq)
      simp only [List.getElem_cons_succ] at this
      rw [this]
      congr 1
      · rw [decide_eq_decide]; omega
      · rw [decide_eq_decide]; omega
    have ih := filt_mid p L (a - 1) (b - 1) hs
    simp only [List.getElem_cons_zero] at h0
    rw [List.filter_cons]
    cases b with
    | zero => simp at h0 ⊢; rw [h0]; simpa using ih
    | succ b =>
      cases a with
      | zero => simp at h0 ih ⊢; rw [h0]; simpa using ih
      | succ a => simp at h0 ih ⊢; rw [h0]; simpa using ih
def rngS (L : List En) (lo hi : SBd) : List En := L.filter fun e => loS e.2.1 lo && hiS e.2.1 hi
theorem rngS_eq {L : List En} (h : Brd L) (lo hi : SBd) : rngS L lo hi = (L.take (kHi L hi)).drop (kLo L lo) := by
  refine filt_mid _ L _ _ (fun q hq => ?_)
  have h1 := kLo_dec h lo q hq
  have h2 := kHi_dec h hi q hq
  rw [h2]
  congr 1
  have h3 : loS L[q].2.1 lo = !decide (q < kLo L lo) := by rw [← h1]; simp
  rw [h3]
  by_cases e : q < kLo L lo
  · simp [e]
  · simp [e]; omega
/-- the entries in order, or back. -/
def turnE (l : List En) (back : Bool) : List En := if back then l.reverse else l
theorem turnE_len (l : List En) (back : Bool) : (turnE l back).length = l.length := by unfold turnE; split <;> simp
theorem turnE_get (l : List En) (back : Bool) (i : Nat) (h : i < l.length) : (turnE l back)[i]'(by rw [turnE_len]; exact h) = l[if back then l.length - 1 - i else i]'(by split <;> omega) := by
  unfold turnE
  cases back with
  | true => simp
  | false => simp
theorem turnE_filter (l : List En) (back : Bool) (p : En → Bool) : turnE (l.filter p) back = (turnE l back).filter p := by
  unfold turnE
  cases back with
  | true => simp
  | false => simp
/-- all behind the first so many, at most so many. -/
def cutE (l : List En) (skip most : Int) : List En := if most < 0 then l.drop (max skip 0).toNat else (l.drop (max skip 0).toNat).take most.toNat
/-- so many ranks. -/
def sliceE (l : List En) (f t : Int) : List En := (l.drop (max f 0).toNat).take (t + 1 - max f 0).toNat
/-- c entries from the rank r on, either way. -/
def pick (L : List En) (back : Bool) (r c : Nat) : List En := (List.range c).map fun j => (L[if back then L.length - 1 - (r + j) else r + j]?).getD (⟨#[]⟩, 0, 0)
theorem pick_len (L : List En) (back : Bool) (r c : Nat) : (pick L back r c).length = c := by unfold pick; simp
theorem pick_get (L : List En) (back : Bool) (r c i : Nat) (h : i < c) : (pick L back r c)[i]'(by rw [pick_len]; exact h) = (L[if back then L.length - 1 - (r + i) else r + i]?).getD (⟨#[]⟩, 0, 0) := by
  unfold pick; simp
theorem at_getD (L : List En) {i : Nat} (h : i < L.length) (d : En) : (L[i]?).getD d = L[i] := by simp [h]
theorem cut_pick (L : List En) (a b : Nat) (hb : b ≤ L.length) (back : Bool) (skip most : Int) (s cc : Nat) (hs : max skip 0 = (s : Int)) (hc : cc = if most < 0 then b - a - s else min (b - a - s) most.toNat) : cutE (turnE ((L.take b).drop a) back) skip most = pick L back ((if back then L.length - b else a) + s) cc := by
  have hM : ((L.take b).drop a).length = b - a := by rw [List.length_drop, List.length_take]; omega
  have hT : (turnE ((L.take b).drop a) back).length = b - a := by rw [turnE_len, hM]
  have hsn : (max skip 0).toNat = s := by omega
  have key : cutE (turnE ((L.take b).drop a) back) skip most = ((turnE ((L.take b).drop a) back).drop s).take cc := by
    unfold cutE
    rw [hsn]
    by_cases hm : most < 0
    · rw [if_pos hm]
      rw [if_pos hm] at hc
      exact (List.take_of_length_le (by rw [List.length_drop, hT]; omega)).symm
    · rw [if_neg hm]
      rw [if_neg hm] at hc
      rcases Nat.le_total (b - a - s) most.toNat with q | q
      · have e1 : ∀ z, b - a - s ≤ z → ((turnE ((L.take b).drop a) back).drop s).take z = (turnE ((L.take b).drop a) back).drop s := fun z hz => List.take_of_length_le (by rw [List.length_drop, hT]; omega)
        rw [e1 _ q, e1 _ (by omega)]
      · rw [show cc = most.toNat by omega]
  rw [key]
  have hcc : cc ≤ b - a - s := by rw [hc]; split <;> omega
  refine List.ext_getElem (by rw [List.length_take, List.length_drop, hT, pick_len]; omega) (fun i h1 h2 => ?_)
  rw [pick_len] at h2
  rw [pick_get _ _ _ _ _ h2, List.getElem_take, List.getElem_drop, turnE_get _ _ _ (by rw [hM]; omega), List.getElem_drop, List.getElem_take]
  rw [at_getD L (by cases back <;> simp <;> omega)]
  congr 1
  simp only [hM]
  cases back with
  | true => simp; omega
  | false => simp; omega
theorem slice_pick (L : List En) (back : Bool) (f t : Int) : sliceE (turnE L back) f t = pick L back (max f 0).toNat (min t ((L.length : Int) - 1) + 1 - max f 0).toNat := by
  unfold sliceE
  refine List.ext_getElem (by rw [List.length_take, List.length_drop, turnE_len, pick_len]; omega) (fun i h1 h2 => ?_)
  rw [pick_len] at h2
  rw [pick_get _ _ _ _ _ h2, List.getElem_take, List.getElem_drop, turnE_get _ _ _ (by omega)]
  rw [at_getD L (by cases back <;> simp <;> omega)]
theorem nd_one {L : List En} (h : (L.map (·.1)).Nodup) {i j : Nat} (hi : i < L.length) (hj : j < L.length) (e : L[i].1 = L[j].1) : i = j := by
  rw [List.nodup_iff_pairwise_ne] at h
  have key := List.pairwise_iff_getElem.1 h
  rcases Nat.lt_trichotomy i j with q | q | q
  · exact absurd (by rw [List.getElem_map, List.getElem_map]; exact e) (key i j (by simpa using hi) (by simpa using hj) q)
  · exact q
  · exact absurd (by rw [List.getElem_map, List.getElem_map]; exact e.symm) (key j i (by simpa using hj) (by simpa using hi) q)
theorem rank_one {L : List En} (h : (L.map (·.1)).Nodup) {back : Bool} {k j : Nat} (hk : k < L.length) (hj : j < (turnE L back).length) (e : (turnE L back)[j].1 = L[k].1) : j = if back then L.length - 1 - k else k := by
  have hj' := hj
  rw [turnE_len] at hj'
  rw [turnE_get L back j hj'] at e
  have := nd_one h (by split <;> omega) hk e
  revert this
  cases back with
  | true => simp; omega
  | false => simp
theorem drop_snoc {L : List En} {m : ByteArray} {i : Nat} (h : i < L.length) : dropM (L.take (i + 1)) m = dropM (L.take i) m ++ if L[i].1 = m then [] else [L[i]] := by
  unfold dropM
  rw [List.take_succ_eq_append_getElem h, List.filter_append]
  congr 1
  by_cases e : L[i].1 = m
  · simp [e]
  · simp [e]
theorem filt_snoc {L : List En} (p : En → Bool) {i : Nat} (h : i < L.length) : (L.take (i + 1)).filter p = (L.take i).filter p ++ if p L[i] = true then [L[i]] else [] := by
  rw [List.take_succ_eq_append_getElem h, List.filter_append]
  congr 1
  by_cases e : p L[i] = true
  · simp [e]
  · simp [e]
theorem drop_lt (L : List En) (m : ByteArray) : decide ((dropM L m).length < L.length) = L.any fun e => decide (e.1 = m) := by
  unfold dropM
  by_cases h : ∃ e ∈ L, e.1 = m
  · obtain ⟨e, he, hm⟩ := h
    have h1 : (L.any fun e => decide (e.1 = m)) = true := List.any_eq_true.2 ⟨e, he, by simpa using hm⟩
    rw [h1, decide_eq_true_eq]
    refine Nat.lt_of_le_of_ne (List.length_filter_le _ _) (fun q => ?_)
    have := (List.length_filter_eq_length_iff.1 q) e he
    simp [hm] at this
  · have h1 : (L.any fun e => decide (e.1 = m)) = false := by
      rw [List.any_eq_false]
      exact fun e he q => h ⟨e, he, by simpa using q⟩
    rw [h1]
    have h2 : L.filter (fun e => decide (e.1 ≠ m)) = L := List.filter_eq_self.2 (fun e he => by simpa using fun q => h ⟨e, he, q⟩)
    rw [h2]; simp
/-- the document's way to insert, step by step. -/
def insP (R : List En) (x : En) (k i : Nat) : List En := if i ≤ k then R.take i else R.take k ++ x :: (R.take i).drop k
theorem insP_go {R : List En} {x : En} {k i : Nat} (hi : i < R.length) (h : i ≠ k) : insP R x k (i + 1) = insP R x k i ++ [R[i]] := by
  unfold insP
  by_cases h1 : i < k
  · rw [if_pos (by omega), if_pos (by omega), List.take_succ_eq_append_getElem hi]
  · rw [if_neg (by omega), if_neg (by omega), List.take_succ_eq_append_getElem hi, List.drop_append_of_le_length (by rw [List.length_take]; omega)]
    simp
theorem insP_at {R : List En} {x : En} {k : Nat} (hi : k < R.length) : insP R x k (k + 1) = insP R x k k ++ [x] ++ [R[k]] := by
  unfold insP
  rw [if_neg (by omega), if_pos (by omega), List.take_succ_eq_append_getElem hi, List.drop_append_of_le_length (by rw [List.length_take]; omega)]
  simp
theorem insP_len {R : List En} {x : En} {k i : Nat} (hi : i ≤ R.length) : (insP R x k i).length ≤ i + 1 := by
  unfold insP
  split
  · rw [List.length_take]; omega
  · simp only [List.length_append, List.length_cons, List.length_drop, List.length_take]; omega
theorem insP_end {R : List En} {x : En} (hb : Brd R) (hx : ∀ e ∈ R, e.1 ≠ x.1) : (plc R x < R.length → insP R x (plc R x) R.length = insM R x) ∧ (¬ plc R x < R.length → insP R x (plc R x) R.length ++ [x] = insM R x) := by
  have hk := plc_le R x
  refine ⟨fun h => ?_, fun h => ?_⟩
  · unfold insP insM
    rw [if_neg (by omega), List.take_length]
  · unfold insP insM
    have e : plc R x = R.length := by omega
    rw [e, if_pos (Nat.le_refl _), List.take_length, List.drop_length]
theorem plc_first {R : List En} {x : En} (hb : Brd R) (hx : ∀ e ∈ R, e.1 ≠ x.1) {i : Nat} (hi : i < R.length) : ahd x R[i] = decide (plc R x ≤ i) := by
  have h1 := plc_dec hb x i hi
  by_cases h : i < plc R x
  · rw [show decide (i < plc R x) = true by simpa using h] at h1
    rw [ahd_asym h1]
    simp; omega
  · have h2 : ahd R[i] x = false := by rw [h1]; simp; omega
    rcases h3 : ahd x R[i] with _ | _
    · exact absurd (ahd_tri h2 h3) (hx _ (List.getElem_mem hi))
    · simp; omega
/-! heights -/
def mxH (hs : List Nat) : Nat := hs.foldr max 0
theorem mxH_le {hs : List Nat} : ∀ h ∈ hs, h ≤ mxH hs := by
  unfold mxH
  induction hs with
  | nil => intro h hh; cases hh
  | cons a l ih =>
    intro h hh
    rw [List.foldr_cons]
    rcases List.mem_cons.1 hh with rfl | q
    · omega
    · have := ih h q; omega
theorem mxH_mem {hs : List Nat} : mxH hs = 0 ∨ mxH hs ∈ hs := by
  unfold mxH
  induction hs with
  | nil => exact .inl rfl
  | cons a l ih =>
    rw [List.foldr_cons]
    rcases Nat.le_total (l.foldr max 0) a with q | q
    · rw [Nat.max_eq_left q]; simp
    · rw [Nat.max_eq_right q]
      rcases ih with r | r
      · exact .inl r
      · exact .inr (List.mem_cons_of_mem _ r)
/-- how many of each height, up to t. -/
def cl (hs : List Nat) (t : Nat) : List Int := (List.range t).map fun j => ((hs.countP fun h => decide (h = j + 1) : Nat) : Int)
theorem cl_len (hs : List Nat) (t : Nat) : (cl hs t).length = t := by unfold cl; simp
theorem cl_more {hs : List Nat} {t : Nat} (h : mxH hs ≤ t) : cl hs (t + 1) = cl hs t ++ [0] := by
  unfold cl
  rw [List.range_succ, List.map_append]
  congr 1
  have : hs.countP (fun h => decide (h = t + 1)) = 0 := List.countP_eq_zero.2 (fun x hx => by have := mxH_le x hx; simp; omega)
  simp [this]
theorem cl_get (hs : List Nat) (t j : Nat) (h : j < t) : (cl hs t)[j]'(by rw [cl_len]; exact h) = ((hs.countP fun h => decide (h = j + 1) : Nat) : Int) := by unfold cl; simp
theorem cl_put {hs : List Nat} {h t : Nat} (h1 : 1 ≤ h) (ht : h ≤ t) : (cl hs t).set (h - 1) ((cl hs t)[h - 1]'(by rw [cl_len]; omega) + 1) = cl (hs ++ [h]) t := by
  refine List.ext_getElem (by rw [List.length_set, cl_len, cl_len]) (fun i a b => ?_)
  rw [cl_len] at b
  have hr := cl_get (hs ++ [h]) t i b
  rw [List.countP_append] at hr
  rw [List.getElem_set, hr]
  split
  · rename_i e
    rw [cl_get _ _ _ (by omega)]
    subst e
    rw [show h - 1 + 1 = h by omega]
    simp
  · rename_i e
    rw [cl_get _ _ _ b]
    have : ¬ h = i + 1 := by omega
    simp [this]
theorem mxH_snoc (hs : List Nat) (h : Nat) : mxH (hs ++ [h]) = max (mxH hs) h := by
  unfold mxH
  induction hs with
  | nil => simp
  | cons a l ih => rw [List.cons_append, List.foldr_cons, List.foldr_cons, ih]; omega
theorem cl_ge (hs : List Nat) (t j : Nat) (h : j < t) : 0 ≤ (cl hs t)[j]'(by rw [cl_len]; exact h) ∧ (cl hs t)[j]'(by rw [cl_len]; exact h) ≤ hs.length := by
  rw [cl_get hs t j h]
  have := List.countP_le_length (l := hs) (p := fun h => decide (h = j + 1))
  omega
end Go.Proofs.YtgbplghokciimaaDoor
namespace Go.Proofs.YtgbplghokciimaaDoor
open Go.RowKit
set_option linter.unusedVariables false
def updL (c : Nat → Lk) (l : Nat) (x : Lk) : Nat → Lk := fun j => if j = l then x else c j
def updP (c : Nat → Nat → Lk) (p : Nat) (f : Nat → Lk) : Nat → Nat → Lk := fun q => if q = p then f else c q
/-- links while a tower comes in: the levels below lv are done. -/
def cI (hb : Nat) (T : List Tw) (k : Nat) (t : Tw) (lv : Nat) : Nat → Nat → Lk := fun p l => if p ≤ k ∧ l < lv then lnk hb (insT T k t) p l else lnk hb T p l
def cT (hb : Nat) (T : List Tw) (k : Nat) (t : Tw) (lv : Nat) : Nat → Lk := fun l => if l < lv then lnk hb (insT T k t) (k + 1) l else (none, 0)
theorem cI_zero (hb : Nat) (T : List Tw) (k : Nat) (t : Tw) : cI hb T k t 0 = lnk hb T := by
  funext p l; unfold cI; rw [if_neg (by omega)]
theorem cT_zero (hb : Nat) (T : List Tw) (k : Nat) (t : Tw) : cT hb T k t 0 = fun _ => (none, 0) := by
  funext l; unfold cT; rw [if_neg (by omega)]
theorem cI_now (hb : Nat) (T : List Tw) (k : Nat) (t : Tw) (lv p : Nat) : cI hb T k t lv p lv = lnk hb T p lv := by
  unfold cI; rw [if_neg (by omega)]
theorem cT_step (hb : Nat) (T : List Tw) (k : Nat) (t : Tw) (lv : Nat) : updL (cT hb T k t lv) lv (lnk hb (insT T k t) (k + 1) lv) = cT hb T k t (lv + 1) := by
  funext l; unfold cT updL
  by_cases h : l = lv
  · subst h; rw [if_pos rfl, if_pos (by omega)]
  · rw [if_neg h]
    show (if l < lv then lnk hb (insT T k t) (k + 1) l else (none, 0)) = _
    by_cases h2 : l < lv
    · rw [if_pos h2, if_pos (by omega)]
    · rw [if_neg h2, if_neg (by omega)]
theorem stand_near {T : List Tw} {k p p' l : Nat} (hk : k ≤ T.length) (hp : IsPrv (hts T) l k p) (hst : Stand (hts T) l p') (hle : p' ≤ k) (hne : p' ≠ p) : nx (hts T) l p' ≤ k := by
  have hlt : p' < p := by
    rcases Nat.lt_or_ge p p' with h | h
    · exact absurd hst (hp.last p' h hle)
    · omega
  have := nxt_to_prv (by rw [hts_len]; exact hk) hp hlt (nx_is (by rw [hts_len]; omega))
  have := hp.le
  omega
theorem cI_step {hb : Nat} {T : List Tw} {k : Nat} {t : Tw} {lv p : Nat} (hk : k ≤ T.length) (hp : IsPrv (hts T) lv k p) {p' l' : Nat} (hst : Stand (hts T) l' p') : updP (cI hb T k t lv) p (updL (cI hb T k t lv p) lv (lnk hb (insT T k t) p lv)) p' l' = cI hb T k t (lv + 1) p' l' := by
  unfold updP
  by_cases h1 : p' = p
  · subst h1
    rw [if_pos rfl]
    unfold updL cI
    by_cases h2 : l' = lv
    · subst h2; rw [if_pos rfl, if_pos ⟨hp.le, by omega⟩]
    · rw [if_neg h2]
      by_cases h3 : p' ≤ k ∧ l' < lv
      · rw [if_pos h3, if_pos ⟨h3.1, by omega⟩]
      · rw [if_neg h3, if_neg (by omega)]
  · rw [if_neg h1]
    unfold cI
    by_cases h2 : p' ≤ k ∧ l' < lv
    · rw [if_pos h2, if_pos ⟨h2.1, by omega⟩]
    · rw [if_neg h2]
      by_cases h3 : p' ≤ k ∧ l' < lv + 1
      · rw [if_pos h3]
        have : l' = lv := by omega
        subst this
        exact (lnk_near hk h3.1 (stand_near hk hp hst h3.1 h1)).symm
      · rw [if_neg h3]
theorem cI_end {hb : Nat} {T : List Tw} {k : Nat} {t : Tw} {H : Nat} : (∀ p, p ≤ k → ∀ l, l < H → cI hb T k t H p l = lnk hb (insT T k t) p l) ∧ (k ≤ T.length → ∀ p, k < p → p ≤ T.length → ∀ l, cI hb T k t H p l = lnk hb (insT T k t) (p + 1) l) := by
  refine ⟨fun p hp l hl => ?_, fun hk p hp hpn l => ?_⟩
  · unfold cI; rw [if_pos ⟨hp, hl⟩]
  · unfold cI; rw [if_neg (by omega), lnk_far hk hp hpn]
/-- what is written at a level: the one ahead, and the one that comes. -/
theorem link_hi {hb : Nat} {T : List Tw} {k : Nat} {t : Tw} {l p : Nat} (hk : k ≤ T.length) (hp : IsPrv (hts T) l k p) (hl : ¬ l < t.h) : lnk hb (insT T k t) p l = ((lnk hb T p l).1, (lnk hb T p l).2 + 1) := by
  rw [lnk_prv hk hp, if_neg hl]
theorem link_lo {hb : Nat} {T : List Tw} {k : Nat} {t : Tw} {l p : Nat} (hk : k ≤ T.length) (hp : IsPrv (hts T) l k p) (hl : l < t.h) : lnk hb (insT T k t) p l = (some t.b, k + 1 - p) ∧ lnk hb (insT T k t) (k + 1) l = ((lnk hb T p l).1, (lnk hb T p l).2 + 1 - (k + 1 - p)) := by
  refine ⟨by rw [lnk_prv hk hp, if_pos hl], ?_⟩
  obtain ⟨h1, h2⟩ := lnk_new (hb := hb) (t := t) hk hp
  refine Prod.ext h1 ?_
  have := hp.le
  simp only
  omega
theorem lnk_room {hb : Nat} {T : List Tw} {k l p : Nat} (hk : k ≤ T.length) (hp : IsPrv (hts T) l k p) : k - p < (lnk hb T p l).2 ∧ (lnk hb T p l).2 ≤ T.length + 1 := by
  have h1 := nx_is (hs := hts T) (l := l) (p := p) (by rw [hts_len]; have := hp.le; omega)
  have h2 := nxt_over (by rw [hts_len]; exact hk) hp h1
  have h3 := h1.le
  rw [hts_len] at h3
  have := hp.le
  unfold lnk
  simp only
  omega
/-- links while a tower is taken out: the levels below lv are done. -/
def cD (hb : Nat) (T : List Tw) (k : Nat) (t : Tw) (lv : Nat) : Nat → Nat → Lk := fun p l => if p ≤ k ∧ l < lv then lnk hb T p l else lnk hb (insT T k t) p l
theorem cD_zero (hb : Nat) (T : List Tw) (k : Nat) (t : Tw) : cD hb T k t 0 = lnk hb (insT T k t) := by
  funext p l; unfold cD; rw [if_neg (by omega)]
theorem cD_now (hb : Nat) (T : List Tw) (k : Nat) (t : Tw) (lv p : Nat) : cD hb T k t lv p lv = lnk hb (insT T k t) p lv := by
  unfold cD; rw [if_neg (by omega)]
theorem cD_own (hb : Nat) (T : List Tw) (k : Nat) (t : Tw) (lv l : Nat) : cD hb T k t lv (k + 1) l = lnk hb (insT T k t) (k + 1) l := by
  unfold cD; rw [if_neg (by omega)]
theorem cD_step {hb : Nat} {T : List Tw} {k : Nat} {t : Tw} {lv p : Nat} (hk : k ≤ T.length) (hp : IsPrv (hts T) lv k p) {p' l' : Nat} (hst : Stand (hts (insT T k t)) l' p') : updP (cD hb T k t lv) p (updL (cD hb T k t lv p) lv (lnk hb T p lv)) p' l' = cD hb T k t (lv + 1) p' l' := by
  unfold updP
  by_cases h1 : p' = p
  · subst h1
    rw [if_pos rfl]
    unfold updL cD
    by_cases h2 : l' = lv
    · subst h2; rw [if_pos rfl, if_pos ⟨hp.le, by omega⟩]
    · rw [if_neg h2]
      by_cases h3 : p' ≤ k ∧ l' < lv
      · rw [if_pos h3, if_pos ⟨h3.1, by omega⟩]
      · rw [if_neg h3, if_neg (by omega)]
  · rw [if_neg h1]
    unfold cD
    by_cases h2 : p' ≤ k ∧ l' < lv
    · rw [if_pos h2, if_pos ⟨h2.1, by omega⟩]
    · rw [if_neg h2]
      by_cases h3 : p' ≤ k ∧ l' < lv + 1
      · rw [if_pos h3]
        have : l' = lv := by omega
        subst this
        have hs' : Stand (hts T) l' p' := by
          rw [insT_hts] at hst
          exact (insH_lo (by rw [hts_len]; exact hk) h3.1).1 hst
        exact lnk_near hk h3.1 (stand_near hk hp hs' h3.1 h1)
      · rw [if_neg h3]
theorem cD_end {hb : Nat} {T : List Tw} {k : Nat} {t : Tw} {H : Nat} : (∀ p, p ≤ k → ∀ l, l < H → cD hb T k t H p l = lnk hb T p l) ∧ (k ≤ T.length → ∀ p, k < p → p ≤ T.length → ∀ l, cD hb T k t H (p + 1) l = lnk hb T p l) := by
  refine ⟨fun p hp l hl => ?_, fun hk p hp hpn l => ?_⟩
  · unfold cD; rw [if_pos ⟨hp, hl⟩]
  · unfold cD; rw [if_neg (by omega), lnk_far hk hp hpn]
theorem prv_ins {T : List Tw} {k : Nat} {t : Tw} {l p : Nat} (hk : k ≤ T.length) : IsPrv (hts (insT T k t)) l k p ↔ IsPrv (hts T) l k p := by
  rw [insT_hts]; exact ins_prv (by rw [hts_len]; exact hk)
end Go.Proofs.YtgbplghokciimaaDoor
