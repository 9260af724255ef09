import Derived.Test.YtencjopnbmbhkaaGreatPjE
namespace Go.Proofs.YtencjopnbmbhkaaGreat
open Go.RowKit Go.Maps
set_option linter.unusedVariables false
set_option linter.unusedSimpArgs false
theorem fl_sing (p : Pq) : plnE.fl [p] = plnE.enc p := by rw [fl_cons]; rfl
theorem PX.prow' {W : World} {E o c n : Nat} {l : List Pq} (h : PX W E o c l) (hn : n = l.length) : PRow W (.slice (some ⟨E, o * 3, none⟩) n c) l := by subst hn; exact h.prow
theorem ins_len (l : List Pq) (p : Pq) (i : Nat) (hi : i ≤ l.length) : (l.take i ++ p :: l.drop i).length = l.length + 1 := by simp; omega
theorem ins_all (l : List Pq) (p : Pq) : l.take l.length ++ p :: l.drop l.length = l ++ [p] := by simp
theorem encAt {w : World} {X : Nat} {p : Pq} (hX : w.heap[X]? = some (.cells #[.int .i64 (p.s : Int), .bool p.c, meetV p] 81)) : ∀ j u, (plnE.enc p)[j]? = some u → w.cell? ((⟨X, 0, none⟩ : Addr).add j) = some u := fun j u hj => by
  rw [Addr.add_lit, cell_of_row _ _ _ _ _ _ hX, Nat.zero_add]
  rw [← hj, ← Array.getElem?_toList]; rfl
theorem enc_one (p : Pq) : ∀ u ∈ plnE.enc p, u.oneCell' = true := plnOk.one p
set_option maxHeartbeats 4000000 in
set_option maxRecDepth 100000 in
theorem insE_nil (X vc : Nat) (p : Pq) (w : World) (hX : w.heap[X]? = some (.cells #[.int .i64 (p.s : Int), .bool p.c, meetV p] 81)) :
    Calls Tryz.prog 85 #[.slice none 0 0, .int .i64 0, .slice (some ⟨X, 0, none⟩) 1 vc] w fun r w' => InsP w (.slice none 0 0) [p] r w' := by
  obtain ⟨i0, hi0, hz0, hz1, hz2⟩ := info_parts infoP
  have HN : Hid _ := encAt hX
  have h1c := enc_one p
  have hel : (plnE.enc p).length = 1 * 3 := rfl
  have HFL : Hid (plnE.enc p = plnE.fl [p]) := (fl_sing p).symm
  clear hX
  generalize plnE.enc p = vs at *
  go_enter Tryz.func85, Tryz.ntmps85
  go_upto_region 7 with fail
  go_wp2_with (at_builtin; go_must (refine wpList_append_grows _ rfl _ _ 58 rfl 81 i0 (.agg #[.int .i64 0, .bool false, .nilFunc]) 3 24 Tryz.underlying58 hi0 hz0 hz1 hz2 rfl (by decide) none 0 0 [] rfl (fun _ => ⟨rfl, rfl⟩) rfl (fun b h => by cases h) ⟨X, 0, none⟩ 1 vc vs rfl hel HN.out h1c (by omega) (by unfold maxLen; omega) (by omega) ?_))
  intro v' w1 hown hgr
  rw [HFL.out] at hown
  have HR : Hid (InsP w (.slice none 0 0) [p] (.returned v') w1) := ⟨v', rfl, own_prow hown rfl, ModP.grownV (v := .slice none 0 0) hgr, fun k hk => Or.inr (by
    obtain ⟨_, ⟨h1, h2⟩ | ⟨g, cap, cur, rfl, hb, _⟩⟩ := hown
    · rw [h1] at hk; cases hk
    · cases hk; exact hb)⟩
  clear hown hgr
  go_wp2
  go_returns
  exact HR.out
set_option maxHeartbeats 4000000 in
set_option maxRecDepth 100000 in
theorem insE_fit (X vc : Nat) (p : Pq) (E o c : Nat) (l : List Pq) (w : World) (hB : PX w E o c l) (hl : l.length ≤ 2199023255552) (hroom : l.length + 1 ≤ c) (hX : w.heap[X]? = some (.cells #[.int .i64 (p.s : Int), .bool p.c, meetV p] 81)) :
    Calls Tryz.prog 85 #[.slice (some ⟨E, o * 3, none⟩) l.length c, .int .i64 (l.length : Int), .slice (some ⟨X, 0, none⟩) 1 vc] w fun r w' => InsP w (.slice (some ⟨E, o * 3, none⟩) l.length c) (l ++ [p]) r w' := by
  obtain ⟨i0, hi0, hz0, hz1, hz2⟩ := info_parts infoP
  obtain ⟨cur, h1, h2, h3⟩ := hB.row
  have hmx := hB.max
  have hel : (plnE.enc p).length = 3 := rfl
  have HRUN : Hid (∀ ty, (Builtin.append_ #[58, 58] ty #[.slice (some ⟨E, o * 3, none⟩) l.length c, .slice (some ⟨X, 0, none⟩) 1 vc]).run Tryz.prog w = .ok (.slice (some ⟨E, o * 3, none⟩) (l.length + 1) c) (w.setCells E (o * 3 + l.length * 3) (plnE.enc p))) := fun ty => by
    have := run_append_room_cells (P := Tryz.prog) w 58 ty 81 i0 Tryz.underlying58 hi0 E (o * 3) l.length c ⟨X, 0, none⟩ 1 vc (plnE.enc p) (by rw [hz1]; rfl) (encAt hX) (enc_one p) hroom (fun j hj => by rw [hz1, cell_of_row _ _ _ _ _ _ h1, Array.getElem?_eq_getElem (by rw [hel] at hj; omega)]; rfl) (fun j hj => frozen_of_row _ _ _ _ _ h1)
    rw [hz1] at this; exact this
  have HR : Hid (InsP w (.slice (some ⟨E, o * 3, none⟩) l.length c) (l ++ [p]) (.returned (.slice (some ⟨E, o * 3, none⟩) (l.length + 1) c)) (w.setCells E (o * 3 + l.length * 3) (plnE.enc p))) := by
    have hh := heap_cells E _ (plnE.enc p) (o * 3 + l.length * 3) w cur h1 (by rw [hel]; omega)
    have hP := PX.ins (p := p) (Nat.le_refl l.length) hroom hmx h2 h3 (W := w.setCells E (o * 3 + l.length * 3) (plnE.enc p)) (E := E) (by rw [List.drop_length, show plnE.fl [] = [] from rfl, spl_nil]; exact hh)
    rw [ins_all] at hP
    exact ⟨_, rfl, hP.prow' (by simp), ModP.only (grown_only E _ _ w) rfl, fun k hk => Or.inl hk⟩
  have hn1 : ¬ ((1 : Int) = 0) := by omega
  obtain ⟨n, hn⟩ : ∃ n, l.length = n := ⟨_, rfl⟩
  rw [hn] at HRUN HR hl hroom ⊢
  generalize plnE.enc p = vs at *
  clear h1 h2 h3 hB hX hi0 hz0 hz1 hz2 hel hn
  go_enter Tryz.func85, Tryz.ntmps85
  go_upto_region 7 with fail
  all_goals
    go_wp2_with (at_builtin; go_must (refine Lib.wpList_append_run _ rfl _ _ 58 58 rfl (.slice (some ⟨E, o * 3, none⟩) n c) (.slice (some ⟨X, 0, none⟩) 1 vc) ?a1 ?a2 _ _ (HRUN.out _) ?_))
    case a1 => rfl
    case a2 => rfl
    go_wp2
    go_returns
    exact HR.out
set_option maxHeartbeats 4000000 in
set_option maxRecDepth 100000 in
theorem insE_grow (X vc : Nat) (p : Pq) (E o c : Nat) (l : List Pq) (w : World) (hB : PX w E o c l) (hl : l.length ≤ 2199023255552) (hroom : c < l.length + 1) (hX : w.heap[X]? = some (.cells #[.int .i64 (p.s : Int), .bool p.c, meetV p] 81)) :
    Calls Tryz.prog 85 #[.slice (some ⟨E, o * 3, none⟩) l.length c, .int .i64 (l.length : Int), .slice (some ⟨X, 0, none⟩) 1 vc] w fun r w' => InsP w (.slice (some ⟨E, o * 3, none⟩) l.length c) (l ++ [p]) r w' := by
  obtain ⟨i0, hi0, hz0, hz1, hz2⟩ := info_parts infoP
  have hmx := hB.max
  have hle := hB.le
  have HN : Hid _ := encAt hX
  have h1c := enc_one p
  have hel : (plnE.enc p).length = 1 * 3 := rfl
  have HFL : Hid (plnE.fl l ++ plnE.enc p = plnE.fl (l ++ [p])) := by show _ = _; rw [flq_app, fl_sing]
  have HOL : Hid (∀ b, some (⟨E, o * 3, none⟩ : Addr) = some b → ∀ j u, (plnE.fl l)[j]? = some u → w.cell? (b.add j) = some u) := fun b hb j u hj => by
    cases hb
    have := hB.takeAt l.length (Nat.le_refl _) j u (by rw [List.take_length]; exact hj)
    exact this
  have hfi : (plnE.fl l).length = l.length * 3 := flq_len l
  have HLN : Hid ((l ++ [p]).length = l.length + 1) := by show _ = _; simp
  obtain ⟨n, hn⟩ : ∃ n, l.length = n := ⟨_, rfl⟩
  rw [hn] at hfi hl hroom HLN hle ⊢
  generalize plnE.enc p = vs at *
  generalize plnE.fl l = xs at *
  clear hX hB hn
  go_enter Tryz.func85, Tryz.ntmps85
  go_upto_region 7 with fail
  all_goals
    go_wp2_with (at_builtin; go_must (refine wpList_append_grows _ rfl _ _ 58 rfl 81 i0 (.agg #[.int .i64 0, .bool false, .nilFunc]) 3 24 Tryz.underlying58 hi0 hz0 hz1 hz2 rfl (by decide) (some ⟨E, o * 3, none⟩) n c xs rfl (fun h => by cases h) hfi HOL.out ⟨X, 0, none⟩ 1 vc vs rfl hel HN.out h1c (by omega) (by unfold maxLen; omega) (by omega) ?_))
    intro v' w1 hown hgr
    rw [HFL.out] at hown
    have HR : Hid (InsP w (.slice (some ⟨E, o * 3, none⟩) n c) (l ++ [p]) (.returned v') w1) := ⟨v', rfl, own_prow hown HLN.out.symm, ModP.grownV (v := .slice (some ⟨E, o * 3, none⟩) n c) (grown_wide hgr), fun k hk => Or.inr (by
      obtain ⟨_, ⟨h1, h2⟩ | ⟨g, cap, cur, rfl, hb, _⟩⟩ := hown
      · rw [h1] at hk; cases hk
      · cases hk; exact hb)⟩
    clear hown hgr
    go_wp2
    go_returns
    exact HR.out
end Go.Proofs.YtencjopnbmbhkaaGreat
