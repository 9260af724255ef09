import Derived.WalkKit
import Derived.WalkSpells
import Derived.Handy
import Derived.Laws.BytesArg
import Derived.NoCompiler
namespace Go.Proofs.YtgbplghokciimaaDoor
open Go.RowKit
set_option linter.unusedVariables false
theorem byl_irrefl : ∀ x : List UInt8, Op.bytesLess x x = false
  | [] => rfl
  | a :: x => by simp [Op.bytesLess, byl_irrefl x]
theorem byl_trans : ∀ x y z : List UInt8, Op.bytesLess x y = true → Op.bytesLess y z = true → Op.bytesLess x z = true
  | _, [], _, h, _ => by simp [Op.bytesLess] at h
  | _, _ :: _, [], _, h => by simp [Op.bytesLess] at h
  | [], _ :: _, _ :: _, _, _ => by simp [Op.bytesLess]
  | a :: x, b :: y, c :: z, h1, h2 => by
    simp only [Op.bytesLess, Bool.or_eq_true, decide_eq_true_eq, Bool.and_eq_true, beq_iff_eq] at h1 h2 ⊢
    rcases h1 with h1 | ⟨rfl, h1⟩ <;> rcases h2 with h2 | ⟨rfl, h2⟩
    · exact Or.inl (UInt8.lt_trans h1 h2)
    · exact Or.inl h1
    · exact Or.inl h2
    · exact Or.inr ⟨rfl, byl_trans x y z h1 h2⟩
theorem byl_tri : ∀ x y : List UInt8, Op.bytesLess x y = false → Op.bytesLess y x = false → x = y
  | [], [], _, _ => rfl
  | [], _ :: _, h, _ => by simp [Op.bytesLess] at h
  | _ :: _, [], _, h => by simp [Op.bytesLess] at h
  | a :: x, b :: y, h1, h2 => by
    simp only [Op.bytesLess, Bool.or_eq_false_iff, decide_eq_false_iff_not, Bool.and_eq_false_iff, beq_eq_false_iff_ne] at h1 h2
    have hab : a = b := UInt8.toNat_inj.1 (by have := h1.1; have := h2.1; rw [UInt8.lt_iff_toNat_lt] at *; omega)
    subst hab
    rw [byl_tri x y (by rcases h1.2 with h | h; exact absurd rfl h; exact h) (by rcases h2.2 with h | h; exact absurd rfl h; exact h)]
def ltB (a b : ByteArray) : Bool := Op.bytesLess a.toList b.toList
theorem ltB_irr (a : ByteArray) : ltB a a = false := byl_irrefl _
theorem ltB_trans {a b c : ByteArray} (h1 : ltB a b = true) (h2 : ltB b c = true) : ltB a c = true := byl_trans _ _ _ h1 h2
theorem ltB_tri {a b : ByteArray} (h1 : ltB a b = false) (h2 : ltB b a = false) : a = b := by
  have := byl_tri _ _ h1 h2
  rw [ByteArray.toList_eq, ByteArray.toList_eq] at this
  exact ByteArray.ext (Array.toList_inj.1 this)
theorem ltB_asym {a b : ByteArray} (h : ltB a b = true) : ltB b a = false := by
  rcases h2 : ltB b a with _ | _
  · rfl
  · have := ltB_trans h h2; rw [ltB_irr] at this; cases this
/-- a member, its score, what it bears. -/
abbrev En := ByteArray × Int × Int
/-- a stands ahead of b. -/
def ahd (a b : En) : Bool := decide (a.2.1 < b.2.1) || (decide (a.2.1 = b.2.1) && ltB a.1 b.1)
theorem ahd_iff (a b : En) : ahd a b = true ↔ a.2.1 < b.2.1 ∨ (a.2.1 = b.2.1 ∧ ltB a.1 b.1 = true) := by
  unfold ahd; simp
theorem ahd_irr (a : En) : ahd a a = false := by
  rcases h : ahd a a with _ | _
  · rfl
  · rcases (ahd_iff a a).1 h with q | ⟨_, q⟩
    · omega
    · rw [ltB_irr] at q; cases q
theorem ahd_trans {a b c : En} (h1 : ahd a b = true) (h2 : ahd b c = true) : ahd a c = true := by
  rw [ahd_iff] at *
  rcases h1 with h1 | ⟨h1, h1'⟩ <;> rcases h2 with h2 | ⟨h2, h2'⟩
  · exact Or.inl (by omega)
  · exact Or.inl (by omega)
  · exact Or.inl (by omega)
  · exact Or.inr ⟨by omega, ltB_trans h1' h2'⟩
theorem ahd_asym {a b : En} (h : ahd a b = true) : ahd b a = false := by
  rcases h2 : ahd b a with _ | _
  · rfl
  · have := ahd_trans h h2; rw [ahd_irr] at this; cases this
/-- of two members one stands ahead. -/
theorem ahd_tri {a b : En} (h1 : ahd a b = false) (h2 : ahd b a = false) : a.1 = b.1 := by
  by_cases hs : a.2.1 = b.2.1
  · refine ltB_tri ?_ ?_
    · rcases q : ltB a.1 b.1 with _ | _
      · rfl
      · rw [(ahd_iff a b).2 (Or.inr ⟨hs, q⟩)] at h1; cases h1
    · rcases q : ltB b.1 a.1 with _ | _
      · rfl
      · rw [(ahd_iff b a).2 (Or.inr ⟨hs.symm, q⟩)] at h2; cases h2
  · rcases Int.lt_or_gt_of_ne hs with q | q
    · rw [(ahd_iff a b).2 (Or.inl q)] at h1; cases h1
    · rw [(ahd_iff b a).2 (Or.inl q)] at h2; cases h2
/-- the members in order, none twice. -/
structure Brd (L : List En) : Prop where
  up : L.Pairwise fun a b => ahd a b = true
  nd : (L.map (·.1)).Nodup
def dropM (L : List En) (m : ByteArray) : List En := L.filter fun e => decide (e.1 ≠ m)
/-- how many stand ahead of x. -/
def plc (L : List En) (x : En) : Nat := (L.takeWhile fun y => ahd y x).length
def insM (L : List En) (x : En) : List En := L.take (plc L x) ++ x :: L.drop (plc L x)
def setM (L : List En) (m : ByteArray) (s v : Int) : List En := insM (dropM L m) (m, s, v)
theorem dropM_brd {L : List En} (h : Brd L) (m : ByteArray) : Brd (dropM L m) :=
  ⟨h.up.sublist List.filter_sublist, h.nd.sublist (List.Sublist.map _ List.filter_sublist)⟩
theorem dropM_no (L : List En) (m : ByteArray) : ∀ e ∈ dropM L m, e.1 ≠ m := fun e he => by
  have := (List.mem_filter.1 he).2
  simpa using this
theorem plc_parts (L : List En) (x : En) : L.take (plc L x) = L.takeWhile (fun y => ahd y x) ∧ L.drop (plc L x) = L.dropWhile (fun y => ahd y x) := by
  unfold plc
  have h := List.takeWhile_append_dropWhile (p := fun y : En => ahd y x) (l := L)
  constructor
  · have q := List.take_left (l₁ := L.takeWhile (fun y => ahd y x)) (l₂ := L.dropWhile (fun y => ahd y x))
    rw [h] at q; exact q
  · have q := List.drop_left (l₁ := L.takeWhile (fun y => ahd y x)) (l₂ := L.dropWhile (fun y => ahd y x))
    rw [h] at q; exact q
theorem plc_le (L : List En) (x : En) : plc L x ≤ L.length := by unfold plc; exact (List.takeWhile_sublist _).length_le
theorem plc_lo (L : List En) (x : En) : ∀ e ∈ L.take (plc L x), ahd e x = true := by
  rw [(plc_parts L x).1]; intro e he; exact List.all_eq_true.1 (List.all_takeWhile (p := fun y : En => ahd y x) (l := L)) e he
theorem plc_hi {L : List En} (h : L.Pairwise fun a b => ahd a b = true) (x : En) : ∀ e ∈ L.drop (plc L x), ahd e x = false := by
  rw [(plc_parts L x).2]
  induction L with
  | nil => simp
  | cons a L ih =>
    obtain ⟨h1, h2⟩ := List.pairwise_cons.1 h
    rw [List.dropWhile_cons]
    rcases ha : ahd a x with _ | _
    · intro e he
      simp only [Bool.false_eq_true, if_false] at he
      rcases List.mem_cons.1 he with rfl | he
      · exact ha
      · rcases hq : ahd e x with _ | _
        · rfl
        · have := ahd_trans (h1 e he) hq
          rw [ha] at this; cases this
    · simpa using ih h2
theorem insM_brd {L : List En} (h : Brd L) {x : En} (hx : ∀ e ∈ L, e.1 ≠ x.1) : Brd (insM L x) := by
  unfold insM
  have hs : (L.take (plc L x) ++ L.drop (plc L x)).Pairwise fun a b => ahd a b = true := by rw [List.take_append_drop]; exact h.up
  obtain ⟨p1, p2, p3⟩ := List.pairwise_append.1 hs
  refine ⟨List.pairwise_append.2 ⟨p1, List.pairwise_cons.2 ⟨fun e he => ?_, p2⟩, fun a ha b hb => ?_⟩, ?_⟩
  · have h1 := plc_hi h.up x e he
    rcases h2 : ahd x e with _ | _
    · exact absurd (ahd_tri h1 h2) (hx e (List.mem_of_mem_drop he))
    · rfl
  · rcases List.mem_cons.1 hb with rfl | hb
    · exact plc_lo L b a ha
    · exact p3 a ha b hb
  · have hp : (L.take (plc L x) ++ x :: L.drop (plc L x)).Perm (x :: L) := by
      have := List.perm_middle (a := x) (l₁ := L.take (plc L x)) (l₂ := L.drop (plc L x))
      rwa [List.take_append_drop] at this
    rw [(hp.map _).nodup_iff, List.map_cons]
    exact List.nodup_cons.2 ⟨fun hm => by
      obtain ⟨e, he, q⟩ := List.mem_map.1 hm
      exact hx e he q, h.nd⟩
theorem setM_brd {L : List En} (h : Brd L) (m : ByteArray) (s v : Int) : Brd (setM L m s v) := insM_brd (dropM_brd h m) (dropM_no L m)
/-- the document's way to insert: ahead of the first that x stands ahead of. -/
theorem ins_first {L : List En} (h : Brd L) {x : En} (hx : ∀ e ∈ L, e.1 ≠ x.1) : plc L x = (L.takeWhile fun y => !ahd x y).length := by
  unfold plc
  congr 1
  have key : ∀ (M : List En), (∀ e ∈ M, e.1 ≠ x.1) → M.takeWhile (fun y => ahd y x) = M.takeWhile (fun y => !ahd x y) := by
    intro M hM
    induction M with
    | nil => rfl
    | cons a M ih =>
      rw [List.takeWhile_cons, List.takeWhile_cons, ih (fun e he => hM e (List.mem_cons_of_mem _ he))]
      rcases h1 : ahd a x with _ | _
      · rcases h2 : ahd x a with _ | _
        · exact absurd (ahd_tri h1 h2) (hM a (by simp))
        · rfl
      · rw [ahd_asym h1]; rfl
  exact key L hx
/-- heights as a list; the head stands at place 0, at every level. -/
def Stand (hs : List Nat) (l p : Nat) : Prop := p = 0 ∨ ∃ h, hs[p - 1]? = some h ∧ l < h
theorem Stand.le {hs : List Nat} {l p : Nat} (h : Stand hs l p) : p ≤ hs.length := by
  rcases h with rfl | ⟨h, e, _⟩
  · exact Nat.zero_le _
  · have := (List.getElem?_eq_some_iff.1 e).1
    omega
theorem Stand.down {hs : List Nat} {l k p : Nat} (h : Stand hs l p) (hk : k ≤ l) : Stand hs k p := by
  rcases h with h | ⟨h, e, hl⟩
  · exact Or.inl h
  · exact Or.inr ⟨h, e, by omega⟩
/-- the last place up to k at that level. -/
structure IsPrv (hs : List Nat) (l k p : Nat) : Prop where
  le : p ≤ k
  at_ : Stand hs l p
  last : ∀ r, p < r → r ≤ k → ¬ Stand hs l r
/-- the next place at that level; one behind the last: none. -/
structure IsNxt (hs : List Nat) (l p q : Nat) : Prop where
  lt : p < q
  le : q ≤ hs.length + 1
  at_ : q ≤ hs.length → Stand hs l q
  none : ∀ r, p < r → r < q → ¬ Stand hs l r
theorem IsPrv.one {hs : List Nat} {l k p p' : Nat} (h : IsPrv hs l k p) (h' : IsPrv hs l k p') : p = p' := by
  rcases Nat.lt_trichotomy p p' with q | q | q
  · exact absurd h'.at_ (h.last p' q h'.le)
  · exact q
  · exact absurd h.at_ (h'.last p q h.le)
theorem IsNxt.one {hs : List Nat} {l p q q' : Nat} (h : IsNxt hs l p q) (h' : IsNxt hs l p q') : q = q' := by
  rcases Nat.lt_trichotomy q q' with r | r | r
  · have := h'.le
    exact absurd (h.at_ (by omega)) (h'.none q h.lt r)
  · exact r
  · have := h.le
    exact absurd (h'.at_ (by omega)) (h.none q' h'.lt r)
/-- a step of a search: the next one is still ahead. -/
theorem IsNxt.go {hs : List Nat} {l p q k : Nat} (h : IsNxt hs l p q) (hq : q ≤ k) (hk : k ≤ hs.length) : Stand hs l q ∧ q ≤ k ∧ p < q := ⟨h.at_ (by omega), hq, h.lt⟩
/-- a search at a level is over. -/
theorem IsNxt.stop {hs : List Nat} {l p q k : Nat} (h : IsNxt hs l p q) (hp : Stand hs l p) (hpk : p ≤ k) (hq : k < q) : IsPrv hs l k p := ⟨hpk, hp, fun r h1 h2 => h.none r h1 (by omega)⟩
theorem stand_dec (hs : List Nat) (l p : Nat) : Stand hs l p ∨ ¬ Stand hs l p := Classical.em _
theorem nxt_ex (hs : List Nat) (l p : Nat) (hp : p ≤ hs.length) : ∃ q, IsNxt hs l p q := by
  have key : ∀ n q, q + n = hs.length + 1 → p < q → (∀ r, p < r → r < q → ¬ Stand hs l r) → ∃ q, IsNxt hs l p q := by
    intro n
    induction n with
    | zero => intro q hq hpq hno; exact ⟨q, hpq, by omega, fun h => by omega, hno⟩
    | succ n ih =>
      intro q hq hpq hno
      rcases stand_dec hs l q with h | h
      · exact ⟨q, hpq, by omega, fun _ => h, hno⟩
      · refine ih (q + 1) (by omega) (by omega) (fun r h1 h2 => ?_)
        rcases Nat.lt_or_ge r q with h3 | h3
        · exact hno r h1 h3
        · have : r = q := by omega
          subst this; exact h
  exact key (hs.length - p) (p + 1) (by omega) (by omega) (fun r h1 h2 => by omega)
/-- a tower of height h put in behind k places. -/
def insH (hs : List Nat) (k h : Nat) : List Nat := hs.take k ++ h :: hs.drop k
theorem insH_len (hs : List Nat) (k h : Nat) : (insH hs k h).length = hs.length + 1 := by
  unfold insH
  have := congrArg List.length (List.take_append_drop k hs)
  rw [List.length_append] at this
  rw [List.length_append, List.length_cons]; omega
theorem insH_lo {hs : List Nat} {k h l r : Nat} (hk : k ≤ hs.length) (hr : r ≤ k) : Stand (insH hs k h) l r ↔ Stand hs l r := by
  unfold Stand insH
  rcases Nat.eq_zero_or_pos r with rfl | h0
  · simp
  · rw [List.getElem?_append_left (by rw [List.length_take]; omega), List.getElem?_take_of_lt (by omega)]
theorem insH_at {hs : List Nat} {k h l : Nat} (hk : k ≤ hs.length) : Stand (insH hs k h) l (k + 1) ↔ l < h := by
  unfold Stand insH
  have hl : (hs.take k).length = k := by rw [List.length_take]; omega
  rw [Nat.add_sub_cancel, List.getElem?_append_right (by omega), hl, Nat.sub_self]
  simp
theorem insH_hi {hs : List Nat} {k h l r : Nat} (hk : k ≤ hs.length) (hr : k < r) : Stand (insH hs k h) l (r + 1) ↔ Stand hs l r := by
  unfold Stand insH
  have hl : (hs.take k).length = k := by rw [List.length_take]; omega
  rw [Nat.add_sub_cancel, List.getElem?_append_right (by omega), hl]
  have e : r - k = (r - k - 1) + 1 := by omega
  rw [e, List.getElem?_cons_succ, List.getElem?_drop, show k + (r - k - 1) = r - 1 by omega]
  constructor
  · rintro (q | q)
    · omega
    · exact Or.inr q
  · rintro (q | q)
    · omega
    · exact Or.inr q
/-- links behind a tower was put in: the last one ahead of it leads to it, and it on, where it is as high. -/
theorem ins_to {hs : List Nat} {k h l p : Nat} (hk : k ≤ hs.length) (hp : IsPrv hs l k p) (hl : l < h) : IsNxt (insH hs k h) l p (k + 1) := by
  refine ⟨by have := hp.le; omega, by rw [insH_len]; omega, fun _ => (insH_at hk).2 hl, fun r h1 h2 hs' => ?_⟩
  exact hp.last r h1 (by omega) ((insH_lo hk (by omega)).1 hs')
theorem nxt_over {hs : List Nat} {k l p q : Nat} (hk : k ≤ hs.length) (hp : IsPrv hs l k p) (hq : IsNxt hs l p q) : k < q := by
  rcases Nat.lt_or_ge k q with h | h
  · exact h
  · exact absurd (hq.at_ (by omega)) (hp.last q hq.lt h)
theorem ins_on {hs : List Nat} {k h l p q : Nat} (hk : k ≤ hs.length) (hp : IsPrv hs l k p) (hq : IsNxt hs l p q) : IsNxt (insH hs k h) l (k + 1) (q + 1) := by
  have hkq := nxt_over hk hp hq
  refine ⟨by omega, by rw [insH_len]; have := hq.le; omega, fun hle => ?_, fun r h1 h2 hs' => ?_⟩
  · rw [insH_len] at hle
    exact (insH_hi hk hkq).2 (hq.at_ (by omega))
  · have e : r = (r - 1) + 1 := by omega
    rw [e] at hs'
    exact hq.none (r - 1) (by have := hp.le; omega) (by omega) ((insH_hi hk (by omega)).1 hs')
theorem ins_past {hs : List Nat} {k h l p q : Nat} (hk : k ≤ hs.length) (hp : IsPrv hs l k p) (hq : IsNxt hs l p q) (hl : ¬ l < h) : IsNxt (insH hs k h) l p (q + 1) := by
  have hkq := nxt_over hk hp hq
  refine ⟨by have := hq.lt; omega, by rw [insH_len]; have := hq.le; omega, fun hle => ?_, fun r h1 h2 hs' => ?_⟩
  · rw [insH_len] at hle
    exact (insH_hi hk hkq).2 (hq.at_ (by omega))
  · rcases Nat.lt_trichotomy r (k + 1) with h3 | h3 | h3
    · exact hp.last r h1 (by omega) ((insH_lo hk (by omega)).1 hs')
    · subst h3; exact hl ((insH_at hk).1 hs')
    · have e : r = (r - 1) + 1 := by omega
      rw [e] at hs'
      exact hq.none (r - 1) (by have := hp.le; omega) (by omega) ((insH_hi hk (by omega)).1 hs')
theorem ins_lower {hs : List Nat} {k h l p q : Nat} (hk : k ≤ hs.length) (hq : IsNxt hs l p q) (hqk : q ≤ k) : IsNxt (insH hs k h) l p q :=
  ⟨hq.lt, by rw [insH_len]; omega, fun _ => (insH_lo hk hqk).2 (hq.at_ (by omega)), fun r h1 h2 hs' => hq.none r h1 h2 ((insH_lo hk (by omega)).1 hs')⟩
theorem ins_upper {hs : List Nat} {k h l p q : Nat} (hk : k ≤ hs.length) (hq : IsNxt hs l p q) (hpk : k < p) : IsNxt (insH hs k h) l (p + 1) (q + 1) := by
  have := hq.lt
  refine ⟨by omega, by rw [insH_len]; have := hq.le; omega, fun hle => ?_, fun r h1 h2 hs' => ?_⟩
  · rw [insH_len] at hle
    exact (insH_hi hk (by omega)).2 (hq.at_ (by omega))
  · have e : r = (r - 1) + 1 := by omega
    rw [e] at hs'
    exact hq.none (r - 1) (by omega) (by omega) ((insH_hi hk (by omega)).1 hs')
/-- any other tower that stands at that level ahead of the place leads no further than the last one there. -/
theorem nxt_to_prv {hs : List Nat} {k l p p' q : Nat} (hk : k ≤ hs.length) (hp : IsPrv hs l k p) (hp' : p' < p) (hq : IsNxt hs l p' q) : q ≤ p := by
  rcases Nat.lt_or_ge p q with h | h
  · exact absurd hp.at_ (hq.none p hp' h)
  · exact h
/-- and back: a tower taken out. -/
theorem del_lower {hs : List Nat} {k h l p q : Nat} (hk : k ≤ hs.length) (hq : IsNxt (insH hs k h) l p q) (hqk : q ≤ k) : IsNxt hs l p q :=
  ⟨hq.lt, by omega, fun _ => (insH_lo hk hqk).1 (hq.at_ (by rw [insH_len]; omega)), fun r h1 h2 hs' => hq.none r h1 h2 ((insH_lo hk (by omega)).2 hs')⟩
theorem del_upper {hs : List Nat} {k h l p q : Nat} (hk : k ≤ hs.length) (hq : IsNxt (insH hs k h) l (p + 1) (q + 1)) (hpk : k < p) : IsNxt hs l p q := by
  have := hq.lt
  have hle := hq.le
  rw [insH_len] at hle
  refine ⟨by omega, by omega, fun h1 => ?_, fun r h1 h2 hs' => ?_⟩
  · exact (insH_hi hk (by omega)).1 (hq.at_ (by rw [insH_len]; omega))
  · exact hq.none (r + 1) (by omega) (by omega) ((insH_hi hk (by omega)).2 hs')
theorem del_on {hs : List Nat} {k h l p q : Nat} (hk : k ≤ hs.length) (hp : IsPrv hs l k p) (hq : IsNxt (insH hs k h) l (k + 1) (q + 1)) : IsNxt hs l p q := by
  have hlt := hq.lt
  have hle := hq.le
  rw [insH_len] at hle
  have := hp.le
  refine ⟨by omega, by omega, fun h1 => (insH_hi hk (by omega)).1 (hq.at_ (by rw [insH_len]; omega)), fun r h1 h2 hs' => ?_⟩
  rcases Nat.lt_or_ge k r with h3 | h3
  · exact hq.none (r + 1) (by omega) (by omega) ((insH_hi hk h3).2 hs')
  · exact hp.last r h1 h3 hs'
theorem del_past {hs : List Nat} {k h l p q : Nat} (hk : k ≤ hs.length) (hp : IsPrv hs l k p) (hl : ¬ l < h) (hq : IsNxt (insH hs k h) l p (q + 1)) : IsNxt hs l p q := by
  have hlt := hq.lt
  have hle := hq.le
  rw [insH_len] at hle
  have := hp.le
  have hkq : k < q := by
    rcases Nat.lt_trichotomy q k with h3 | h3 | h3
    · exact absurd ((insH_lo hk (by omega)).1 (hq.at_ (by rw [insH_len]; omega))) (hp.last (q + 1) (by omega) (by omega))
    · subst h3
      exact absurd ((insH_at hk).1 (hq.at_ (by rw [insH_len]; omega))) hl
    · exact h3
  refine ⟨by omega, by omega, fun h1 => (insH_hi hk hkq).1 (hq.at_ (by rw [insH_len]; omega)), fun r h1 h2 hs' => ?_⟩
  rcases Nat.lt_or_ge k r with h3 | h3
  · exact hq.none (r + 1) (by omega) (by omega) ((insH_hi hk h3).2 hs')
  · exact hp.last r h1 h3 hs'
/-- the last place up to k, before a tower was put in behind it and since. -/
theorem ins_prv {hs : List Nat} {k h l p : Nat} (hk : k ≤ hs.length) : IsPrv (insH hs k h) l k p ↔ IsPrv hs l k p :=
  ⟨fun q => ⟨q.le, (insH_lo hk q.le).1 q.at_, fun r h1 h2 hs' => q.last r h1 h2 ((insH_lo hk h2).2 hs')⟩, fun q => ⟨q.le, (insH_lo hk q.le).2 q.at_, fun r h1 h2 hs' => q.last r h1 h2 ((insH_lo hk h2).1 hs')⟩⟩
end Go.Proofs.YtgbplghokciimaaDoor
