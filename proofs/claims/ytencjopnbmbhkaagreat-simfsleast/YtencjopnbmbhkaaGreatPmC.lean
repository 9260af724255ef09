import Derived.Test.YtencjopnbmbhkaaGreatMI
namespace Go.Proofs.YtencjopnbmbhkaaGreat
open Go.RowKit Go.Maps
set_option linter.unusedVariables false
set_option linter.unusedSimpArgs false
set_option maxHeartbeats 400000 in
set_option maxRecDepth 100000 in
theorem cloneC_any (v : Value) (l : List Pc) (hl : l.length ≤ 2199023255552) (w : World) (h : KR pgE w v l) : Calls Tryz.prog 33 #[v] w fun e w' => ∃ P c, e = .returned (.slice P l.length c) ∧ w'.ownsRow w.heap.size 76 3 (.slice P l.length c) l.length (pgE.fl l) ∧ Below w.heap.size w w' := by
  by_cases hv : v = .slice none 0 0
  · subst hv
    have hln : l = [] := by
      obtain ⟨P, c, e⟩ := h.form
      injection e with _ e _
      exact List.eq_nil_of_length_eq_zero e.symm
    subst hln
    have hcmp : ∀ W, (binOp .eql 57 (.slice none 0 0) (.slice none 0 0)).run Tryz.prog W = .ok (.bool true) W := fun W => by kernel_rfl
    clear h
    go_enter Tryz.func33, Tryz.ntmps33
    go_wp2
    go_returns
    exact ⟨none, 0, rfl, ⟨rfl, Or.inl ⟨rfl, rfl⟩⟩, Below.refl _ _⟩
  · obtain ⟨ad, c, rfl⟩ : ∃ ad c, v = .slice (some ad) l.length c := by
      rcases h with ⟨rfl, p, c, rfl, hpc⟩ | ⟨g, o, c, rfl, _⟩
      · cases p with
        | none => obtain rfl := hpc rfl; exact absurd rfl hv
        | some ad => exact ⟨ad, c, rfl⟩
      · exact ⟨_, c, rfl⟩
    obtain ⟨n, hn⟩ : ∃ n, l.length = n := ⟨_, rfl⟩
    have hcmp : ∀ W, (binOp .eql 57 (.slice (some ad) n c) (.slice none 0 0)).run Tryz.prog W = .ok (.bool false) W := fun W => by kernel_rfl
    obtain ⟨W1, hW1⟩ : ∃ W1, w.alloc (.cells #[] 76) = W1 := ⟨_, rfl⟩
    have hb1 : Below w.heap.size w W1 := by rw [← hW1]; exact (Below.refl _ _).alloc (Nat.le_refl _) _
    have HO1 : Hid (W1.ownsRow w.heap.size 76 3 (.slice (some ⟨w.heap.size, 0, none⟩) 0 0) 0 (pgE.fl [])) := ⟨rfl, Or.inr ⟨w.heap.size, 0, #[], rfl, Nat.le_refl _, by rw [← hW1]; exact one_alloc _ _, Nat.le_refl _, Nat.zero_le _, rfl, rfl⟩⟩
    rw [hn] at h
    have HA1 : Hid (n = ([] : List Pc).length + l.length) := by show n = _; rw [hn]; exact (Nat.zero_add _).symm
    have HA2 : Hid (([] : List Pc).length + l.length ≤ maxLen) := by
      show _ ≤ _
      rw [List.length_nil, Nat.zero_add]
      exact Nat.le_trans hl (by decide)
    have HA3 : Hid ((([] : List Pc).length + l.length) * pgE.by_ ≤ 140737488355328) := by
      show _ * 40 ≤ _
      rw [List.length_nil, Nat.zero_add]
      omega
    have HKR : Hid (KR pgE W1 (.slice (some ad) n c) l) := h.on hb1
    have HB1 : Hid (Below w.heap.size w W1) := hb1
    have HN : Hid (l.length = n) := hn
    have HL : Hid (n ≤ 2199023255552) := by show _ ≤ _; rw [← hn]; exact hl
    rw [hn]
    clear h hb1 hv hl hn
    go_enter Tryz.func33, Tryz.ntmps33
    go_upto_region 3 with fail
    go_wp2_with (first
      | (at_builtin; refine wpList_app pgOk rfl (.tmp 5) (.tmp 6) rfl w.heap.size (.slice (some ⟨w.heap.size, 0, none⟩) 0 0) [] 0 rfl rfl HO1.out (.slice (some ad) n c) l rfl HKR.out n HA1.out HA2.out HA3.out HB1.out.size ?_; intro v3 w3 ho3 hg3; obtain ⟨P9, k9, hkf⟩ := own_form ho3; subst hkf)
      | go_in)
    have HB3 : Hid (Below w.heap.size w w3) := HB1.out.grown hg3 HB1.out.size (fun q hq => (World.ownsRow.lt HO1.out q hq).1)
    have HO3 : Hid (w3.ownsRow w.heap.size 76 3 (.slice P9 n k9) n (pgE.fl l)) := ho3
    clear ho3 hg3 hW1
    go_wp2
    go_returns
    exact ⟨P9, k9, rfl, HO3.out, HB3.out⟩
set_option maxHeartbeats 400000 in
set_option maxRecDepth 100000 in
theorem cloneQ_any (v : Value) (l : List Pq) (hl : l.length ≤ 2199023255552) (w : World) (h : KR plnE w v l) : Calls Tryz.prog 35 #[v] w fun e w' => ∃ P c, e = .returned (.slice P l.length c) ∧ w'.ownsRow w.heap.size 81 3 (.slice P l.length c) l.length (plnE.fl l) ∧ Below w.heap.size w w' := by
  by_cases hv : v = .slice none 0 0
  · subst hv
    have hln : l = [] := by
      obtain ⟨P, c, e⟩ := h.form
      injection e with _ e _
      exact List.eq_nil_of_length_eq_zero e.symm
    subst hln
    have hcmp : ∀ W, (binOp .eql 58 (.slice none 0 0) (.slice none 0 0)).run Tryz.prog W = .ok (.bool true) W := fun W => by kernel_rfl
    clear h
    go_enter Tryz.func35, Tryz.ntmps35
    go_wp2
    go_returns
    exact ⟨none, 0, rfl, ⟨rfl, Or.inl ⟨rfl, rfl⟩⟩, Below.refl _ _⟩
  · obtain ⟨ad, c, rfl⟩ : ∃ ad c, v = .slice (some ad) l.length c := by
      rcases h with ⟨rfl, p, c, rfl, hpc⟩ | ⟨g, o, c, rfl, _⟩
      · cases p with
        | none => obtain rfl := hpc rfl; exact absurd rfl hv
        | some ad => exact ⟨ad, c, rfl⟩
      · exact ⟨_, c, rfl⟩
    obtain ⟨n, hn⟩ : ∃ n, l.length = n := ⟨_, rfl⟩
    have hcmp : ∀ W, (binOp .eql 58 (.slice (some ad) n c) (.slice none 0 0)).run Tryz.prog W = .ok (.bool false) W := fun W => by kernel_rfl
    obtain ⟨W1, hW1⟩ : ∃ W1, w.alloc (.cells #[] 81) = W1 := ⟨_, rfl⟩
    have hb1 : Below w.heap.size w W1 := by rw [← hW1]; exact (Below.refl _ _).alloc (Nat.le_refl _) _
    have HO1 : Hid (W1.ownsRow w.heap.size 81 3 (.slice (some ⟨w.heap.size, 0, none⟩) 0 0) 0 (plnE.fl [])) := ⟨rfl, Or.inr ⟨w.heap.size, 0, #[], rfl, Nat.le_refl _, by rw [← hW1]; exact one_alloc _ _, Nat.le_refl _, Nat.zero_le _, rfl, rfl⟩⟩
    rw [hn] at h
    have HA1 : Hid (n = ([] : List Pq).length + l.length) := by show n = _; rw [hn]; exact (Nat.zero_add _).symm
    have HA2 : Hid (([] : List Pq).length + l.length ≤ maxLen) := by
      show _ ≤ _
      rw [List.length_nil, Nat.zero_add]
      exact Nat.le_trans hl (by decide)
    have HA3 : Hid ((([] : List Pq).length + l.length) * plnE.by_ ≤ 140737488355328) := by
      show _ * 24 ≤ _
      rw [List.length_nil, Nat.zero_add]
      omega
    have HKR : Hid (KR plnE W1 (.slice (some ad) n c) l) := h.on hb1
    have HB1 : Hid (Below w.heap.size w W1) := hb1
    have HN : Hid (l.length = n) := hn
    have HL : Hid (n ≤ 2199023255552) := by show _ ≤ _; rw [← hn]; exact hl
    rw [hn]
    clear h hb1 hv hl hn
    go_enter Tryz.func35, Tryz.ntmps35
    go_upto_region 3 with fail
    go_wp2_with (first
      | (at_builtin; refine wpList_app plnOk rfl (.tmp 5) (.tmp 6) rfl w.heap.size (.slice (some ⟨w.heap.size, 0, none⟩) 0 0) [] 0 rfl rfl HO1.out (.slice (some ad) n c) l rfl HKR.out n HA1.out HA2.out HA3.out HB1.out.size ?_; intro v3 w3 ho3 hg3; obtain ⟨P9, k9, hkf⟩ := own_form ho3; subst hkf)
      | go_in)
    have HB3 : Hid (Below w.heap.size w w3) := HB1.out.grown hg3 HB1.out.size (fun q hq => (World.ownsRow.lt HO1.out q hq).1)
    have HO3 : Hid (w3.ownsRow w.heap.size 81 3 (.slice P9 n k9) n (plnE.fl l)) := ho3
    clear ho3 hg3 hW1
    go_wp2
    go_returns
    exact ⟨P9, k9, rfl, HO3.out, HB3.out⟩
end Go.Proofs.YtencjopnbmbhkaaGreat
