import Derived.Test.YtgiicfgekicfcaaGreatDoorBkA
namespace Go.Proofs.YtgiicfgekicfcaaGreatDoor
open Go.RowKit Vi
set_option linter.unusedVariables false
set_option linter.unusedSimpArgs false
/-- a Boolean is answered, and what it says. -/
def ClPost (PO : Bool → Prop) (e : Ending) : Prop := ∃ bb, e = .returned (.bool bb) ∧ PO bb
theorem ClPost.mk {PO : Bool → Prop} {bb : Bool} (h : PO bb) : ClPost PO (.returned (.bool bb)) := ⟨bb, rfl, h⟩
/-- what clean says of one. -/
def ClH (kd : Int) (s : By) (n : Int) (len : Nat) (D : Int) : Prop := WfH kd s n len ∧ kd ≠ 9 ∧ (lk kd = true → D ≤ 32)
/-- what clean says of a reply and of all in it. -/
def Cl : (k : Nat) → Int → Rn (Rp k) → Prop
  | 0, D, t => ClH t.kind t.text t.n 0 D
  | k + 1, D, t => ClH t.kind t.text t.n (List.length t.list) D ∧ ∀ x : Rn (Rp k), List.Mem x (show List (Rn (Rp k)) from t.list) → Cl k (D + 1) x
/-- all numbers in a reply are such. -/
def Rg : (k : Nat) → Rn (Rp k) → Prop
  | 0, t => -9223372036854775808 ≤ t.n ∧ t.n ≤ 9223372036854775807
  | k + 1, t => (-9223372036854775808 ≤ t.n ∧ t.n ≤ 9223372036854775807) ∧ ∀ x : Rn (Rp k), List.Mem x (show List (Rn (Rp k)) from t.list) → Rg k x
/-- a reply no deeper than d. -/
def dn : (k d : Nat) → Rn (Rp k) → Rn (Rp d)
  | 0, _, t => ⟨t.kind, t.text, t.n, []⟩
  | _ + 1, 0, t => ⟨t.kind, t.text, t.n, []⟩
  | k + 1, d + 1, t => ⟨t.kind, t.text, t.n, List.map (α := Rn (Rp k)) (dn k d) t.list⟩
theorem dn_kind (k d : Nat) (t : Rn (Rp k)) : (dn k d t).kind = t.kind ∧ (dn k d t).text = t.text ∧ (dn k d t).n = t.n := by
  cases k <;> cases d <;> exact ⟨rfl, rfl, rfl⟩
theorem slice0 {Q : Nat → Prop} {w : World} {d P c} : RpL Q d w (.slice P 0 c) [] := by
  cases d with
  | zero => exact ⟨P, c, rfl⟩
  | succ d => exact ⟨P, c, rfl, fun i h => absurd h (Nat.not_lt_zero i)⟩
theorem lk_no {kd : Int} {D : Int} (h : lk kd = true → D ≤ 32) (hD : D = 33) : lk kd = false := by
  cases hh : lk kd with
  | false => rfl
  | true => have := h hh; omega
theorem nk_ne {kd : Int} (h : kd ≠ 9) : (kd == 9) = false := by simpa using h
theorem sum_dn {k d : Nat} (l : List (Rn (Rp k))) (h : ∀ x ∈ l, bz d (dn k d x) ≤ bz k x) : ((l.map (dn k d)).map (bz d)).sum ≤ (l.map (bz k)).sum := by
  induction l with
  | nil => exact Nat.le_refl _
  | cons x l ih =>
    simp only [List.map_cons, List.sum_cons]
    exact Nat.add_le_add (h x (List.mem_cons_self)) (ih (fun y hy => h y (List.mem_cons_of_mem _ hy)))
theorem rpb_map {k d : Nat} (Q : Nat → Prop) (w : World) (v : Value) (l : List (Rn (Rp k))) (f : Rn (Rp k) → Rn (Rp d)) (hf : ∀ x ∈ l, ((f x).kind = x.kind ∧ (f x).text = x.text ∧ (f x).n = x.n) ∧ ∀ v, RpL Q k w v x.list → RpL Q d w v (f x).list) (h : RpB Q k (RpL Q k w) w v l) : RpB Q d (RpL Q d w) w v (l.map f) := by
  obtain ⟨P, c, e, hc⟩ := h
  refine ⟨P, c, by rw [e, List.length_map], fun i hi => ?_⟩
  have hi2 : i < l.length := by rw [List.length_map] at hi; exact hi
  obtain ⟨g, o, l2, e1, e2, e3, e4, e5, e6, e7⟩ := hc i hi2
  obtain ⟨⟨q1, q2, q3⟩, q4⟩ := hf l[i] (List.getElem_mem hi2)
  refine ⟨g, o, l2, e1, e2, ?_, ?_, ?_, e6, ?_⟩
  · rw [List.getElem_map, q1]; exact e3
  · rw [List.getElem_map, q2]; exact e4
  · rw [List.getElem_map, q3]; exact e5
  · rw [List.getElem_map]; exact q4 l2 e7
theorem any_dn {k d : Nat} (l : List (Rn (Rp k))) (h : ∀ x ∈ l, nulT d (dn k d x) = false) : (l.map (dn k d)).any (nulT d) = false := by
  rw [List.any_eq_false]
  intro x hx
  obtain ⟨y, hy, rfl⟩ := List.mem_map.1 hx
  rw [h y hy]; simp
theorem flat_len {k : Nat} (l : List (Rn (Rp k))) (h : ∀ x ∈ l, (enc k x).length ≤ 30 * bz k x) : (l.flatMap (enc k)).length ≤ 30 * (l.map (bz k)).sum := by
  induction l with
  | nil => simp
  | cons x l ih =>
    simp only [List.flatMap_cons, List.length_append, List.map_cons, List.sum_cons]
    have := h x (List.mem_cons_self)
    have := ih (fun y hy => h y (List.mem_cons_of_mem _ hy))
    omega
theorem cl_wf : ∀ (k d : Nat) (t : Rn (Rp k)) (D : Int), D + (d : Int) = 33 → Cl k D t → (Wf d (dn k d t) ∧ nulT d (dn k d t) = false) ∧ bz d (dn k d t) ≤ bz k t ∧ ∀ Q w v, RpL Q k w v t.list → RpL Q d w v (dn k d t).list
  | 0, 0, t, D, hD, h => by
    refine ⟨⟨⟨h.1, lk_no h.2.2 (by omega)⟩, nk_ne h.2.1⟩, Nat.le_refl _, fun Q w v hv => hv⟩
  | 0, d + 1, t, D, hD, h => by
    refine ⟨⟨⟨h.1, fun x hx => by cases hx⟩, ?_⟩, ?_, fun Q w v hv => ?_⟩
    · show ((t.kind == 9) || false) = false
      rw [nk_ne h.2.1]; rfl
    · exact Nat.le_refl _
    · obtain ⟨P, c, rfl⟩ := hv
      exact slice0
  | k + 1, 0, t, D, hD, h => by
    have hlf := lk_no h.1.2.2 (by omega)
    have hl0 : List.length t.list = 0 := wf_leaf h.1.1 hlf
    refine ⟨⟨⟨?_, hlf⟩, nk_ne h.1.2.1⟩, ?_, fun Q w v hv => ?_⟩
    · have h9 := h.1.1
      rw [hl0] at h9
      exact h9
    · exact bz_pos (k + 1) t
    · obtain ⟨P, c, rfl, _⟩ := hv
      exact ⟨P, c, by rw [show List.length (α := Rn (Rp k)) t.list = 0 from hl0]⟩
  | k + 1, d + 1, t, D, hD, h => by
    have IH : ∀ x : Rn (Rp k), List.Mem x (show List (Rn (Rp k)) from t.list) → _ := fun x hx => cl_wf k d x (D + 1) (by omega) (h.2 x hx)
    have hlen : List.length (α := Rn (Rp d)) (List.map (α := Rn (Rp k)) (dn k d) t.list) = List.length (α := Rn (Rp k)) t.list := List.length_map _
    refine ⟨⟨⟨?_, ?_⟩, ?_⟩, ?_, fun Q w v hv => ?_⟩
    · exact (congrArg (fun q => WfH t.kind t.text t.n q) hlen).mpr h.1.1
    · intro x hx
      have hx : x ∈ List.map (α := Rn (Rp k)) (dn k d) t.list := hx
      obtain ⟨y, hy, rfl⟩ := List.mem_map.1 hx
      exact (IH y hy).1.1
    · show ((t.kind == 9) || List.any (α := Rn (Rp d)) (List.map (α := Rn (Rp k)) (dn k d) t.list) (nulT d)) = false
      rw [nk_ne h.1.2.1, Bool.false_or]
      exact any_dn t.list (fun x hx => (IH x hx).1.2)
    · exact Nat.add_le_add_left (sum_dn t.list (fun x hx => (IH x hx).2.1)) _
    · exact rpb_map Q w v t.list (dn k d) (fun x hx => ⟨dn_kind k d x, fun v hv => (IH x hx).2.2 Q w v hv⟩) hv
theorem head_len (kind n : Int) (text : By) (len : Nat) (h : WfH kind text n len) : (headB kind text n len).length ≤ 30 + text.length ∧ headB kind text n len ≠ [] := by
  rcases h with ⟨hk | hk, h1, rfl, rfl⟩ | ⟨rfl, rfl, h1, rfl⟩ | ⟨rfl, h1, rfl, rfl⟩ | ⟨hk | hk, rfl, rfl, rfl⟩ | ⟨rfl, rfl, h1, rfl⟩ | ⟨hk | hk | hk, rfl, rfl, h1⟩ | ⟨rfl, rfl, rfl, h1, h2⟩
  · subst hk; constructor
    · show (43 :: (text ++ [13, 10])).length ≤ _; simp; omega
    · show 43 :: (text ++ [13, 10]) ≠ []; simp
  · subst hk; constructor
    · show (45 :: (text ++ [13, 10])).length ≤ _; simp; omega
    · show 45 :: (text ++ [13, 10]) ≠ []; simp
  · have := itoa_len20 n h1.1 h1.2
    constructor
    · show (58 :: (Lib.itoa n ++ [13, 10])).length ≤ _; simp; omega
    · show 58 :: (Lib.itoa n ++ [13, 10]) ≠ []; simp
  · have := itoa_len20 (text.length : Int) (by omega) (by omega)
    constructor
    · show (36 :: (Lib.itoa text.length ++ [13, 10] ++ (text ++ [13, 10]))).length ≤ _; simp; omega
    · show 36 :: (Lib.itoa text.length ++ [13, 10] ++ (text ++ [13, 10])) ≠ []; simp
  · subst hk; constructor
    · show [95, 13, 10].length ≤ _; simp
    · show [95, 13, 10] ≠ []; simp
  · subst hk; constructor
    · show [95, 13, 10].length ≤ _; simp
    · show [95, 13, 10] ≠ []; simp
  · constructor
    · show [35, if n ≠ 0 then 116 else 102, 13, 10].length ≤ _; simp
    · show [35, if n ≠ 0 then 116 else 102, 13, 10] ≠ []; simp
  · have := itoa_len20 (len : Int) (by omega) (by omega)
    subst hk; constructor
    · show (42 :: (Lib.itoa len ++ [13, 10])).length ≤ _; simp; omega
    · show 42 :: (Lib.itoa len ++ [13, 10]) ≠ []; simp
  · have := itoa_len20 (len : Int) (by omega) (by omega)
    subst hk; constructor
    · show (126 :: (Lib.itoa len ++ [13, 10])).length ≤ _; simp; omega
    · show 126 :: (Lib.itoa len ++ [13, 10]) ≠ []; simp
  · have := itoa_len20 (len : Int) (by omega) (by omega)
    subst hk; constructor
    · show (62 :: (Lib.itoa len ++ [13, 10])).length ≤ _; simp; omega
    · show 62 :: (Lib.itoa len ++ [13, 10]) ≠ []; simp
  · have := itoa_len20 ((len / 2 : Nat) : Int) (by omega) (by omega)
    constructor
    · show (37 :: (Lib.itoa (len / 2 : Nat) ++ [13, 10])).length ≤ _
      revert this
      generalize Lib.itoa ((len / 2 : Nat) : Int) = I
      intro this
      simp; omega
    · show 37 :: (Lib.itoa (len / 2 : Nat) ++ [13, 10]) ≠ []; simp
theorem enc_len : ∀ (k : Nat) (t : Rn (Rp k)), Wf k t → (enc k t).length ≤ 30 * bz k t ∧ enc k t ≠ []
  | 0, t, h => by
    obtain ⟨h1, h2⟩ := head_len t.kind t.n t.text 0 h.1
    refine ⟨?_, h2⟩
    show (headB t.kind t.text t.n 0).length ≤ 30 * (1 + t.text.length)
    omega
  | k + 1, t, h => by
    obtain ⟨h1, h2⟩ := head_len t.kind t.n t.text (List.length t.list) h.1
    refine ⟨?_, fun e => h2 (List.append_eq_nil_iff.1 e).1⟩
    show (headB t.kind t.text t.n (List.length t.list) ++ List.flatMap (α := Rn (Rp k)) (enc k) t.list).length ≤ 30 * (1 + t.text.length + (List.map (α := Rn (Rp k)) (bz k) t.list).sum)
    rw [List.length_append]
    have IH : ∀ x : Rn (Rp k), List.Mem x (show List (Rn (Rp k)) from t.list) → (enc k x).length ≤ 30 * bz k x := fun x hx => (enc_len k x (h.2 x hx)).1
    have h3 : (List.flatMap (α := Rn (Rp k)) (enc k) t.list).length ≤ 30 * (List.map (α := Rn (Rp k)) (bz k) t.list).sum := flat_len t.list IH
    omega
end Go.Proofs.YtgiicfgekicfcaaGreatDoor
