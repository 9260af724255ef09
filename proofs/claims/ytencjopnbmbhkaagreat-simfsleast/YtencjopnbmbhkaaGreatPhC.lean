import Derived.Test.YtencjopnbmbhkaaGreatMF
import Derived.Test.YtencjopnbmbhkaaGreatPfD
namespace Go.Proofs.YtencjopnbmbhkaaGreat
open Go.RowKit Go.Maps
set_option linter.unusedVariables false
set_option linter.unusedSimpArgs false
theorem eM_step1 (args : Array Value) (w : World) : (callFunc 88 args).run Tryz.prog w = .ok (.enter 88 args) w := by kernel_rfl
set_option maxHeartbeats 1000000 in
theorem step1_any (p : Int) (w : World) : Calls Tryz.prog 88 #[.int .i64 p] w fun e w' => e = .returned (.tuple #[]) ∧ w' = w := by
  go_enter Tryz.func88, Tryz.ntmps88
  go_wp2
  go_end0
  exact ⟨rfl, rfl⟩
set_option maxHeartbeats 1000000 in
theorem step_any (HGD : GoDownC) (g : Nat) (X : Gh) (F : Fs) (D : Nat) (eD : ∀ args w, (callFunc D args).run Tryz.prog w = .ok (.enter D args) w) (pre free : Array Value) (PD : World → World → Prop) (w : World) (h : FsP w g X F) (hs : Sm F X) (hs1 : F.steps < 2199023255552) (hpk : F.picks.length ≤ 17592186044416)
    (hdo : ∀ w1, ModP (Own g F X) w w1 → FsP w1 g X (up1 F) → Calls Tryz.prog D (pre ++ free) w1 fun e w' => e = .returned (.tuple #[]) ∧ PD w1 w') :
    Calls Tryz.prog 46 #[ptr (some g), .func (.func D) pre free] w fun e w' => StepP g X F w PD (fun _ w1 _ w' => w' = w1) e w' := by
  have HS : Hid _ := stepOrPart_any HGD g X F D eD pre free 88 eM_step1 #[] #[] PD (fun _ w1 _ w' => w' = w1) w h hs hs1 hpk hdo (fun w1 qv qs p _ => step1_any p w1)
  clear h hdo hs hs1 hpk
  unfold ptr at HS ⊢
  go_enter Tryz.func46, Tryz.ntmps46
  go_wp2_with fail
  refine (show Calls _ _ _ _ _ from HS.out).mono ?_
  rintro e w1 hp
  have HP : Hid (StepP g X F w PD (fun _ w1 _ w' => w' = w1) e w1) := hp
  obtain ⟨he, _⟩ := hp
  subst he
  go_wp2
  go_returns
  exact HP.out
theorem Bec.pre {w W w' : World} {g : Nat} {X X' : Gh} {F F' : Fs} (hb : Below w.heap.size w W) (h : Bec W g X F w' X' F') : Bec w g X F w' X' F' :=
  ⟨h.is, (ModP.below hb).trans h.md, fun k hk => (h.own k hk).imp id (fun q => Nat.le_trans hb.size q), h.len⟩
/-- What a step that leaves nothing where it fails comes to. -/
theorem StepP.fin {w W w' : World} {g : Nat} {X : Gh} {F : Fs} {PD : World → World → Prop} {e : Ending} (hb : Below w.heap.size w W) (h : StepP g X F W PD (fun _ w1 _ w' => w' = w1) e w') (M : Fs × Int) (h0 : (stepM F).2.1 = 0 → (stepM F).1 = up1 F → M.2 = 0 ∧ ∀ w1, ModP (Own g F X) W w1 → FsP w1 g X (up1 F) → PD w1 w' → ∃ X', Bec W g X F w' X' M.1) (h1 : (stepM F).2.1 ≠ 0 → M = ((stepM F).1, (stepM F).2.1)) : e = .returned (.int .i64 M.2) ∧ ∃ X', Bec w g X F w' X' M.1 := by
  obtain ⟨he, hc⟩ := h
  rcases hc with ⟨a, b, w1, c, d, f⟩ | ⟨a, b, w1, qv, qs, c, d⟩ | ⟨a, X', c⟩
  · obtain ⟨m2, hm⟩ := h0 a b
    obtain ⟨X', hB⟩ := hm w1 c d f
    exact ⟨by rw [he, a, m2], X', hB.pre hb⟩
  · have hM := h1 (by omega)
    refine ⟨by rw [he, hM], { X with qv := qv, qs := qs }, ?_⟩
    rw [hM]
    simp only []
    rw [b, d]
    exact c.pre hb
  · have hM := h1 (by omega)
    exact ⟨by rw [he, hM], X', by rw [hM]; exact c.pre hb⟩
/-- find's answers, told apart. -/
theorem fnd_no {F : Fs} {X : Gh} {n : ByteArray} {os : List ByteArray} (h : ¬ (F.down = false ∧ (os ++ [n]).all namedM = true ∧ ¬ findM F.dir n < 0)) : (fndM F X n os).1 = .pointer none ∧ (fndM F X n os).2 ≠ 0 := by
  unfold fndM chkM
  by_cases hd : F.down
  · simp [hd]
  · simp only [hd, if_false, Bool.false_eq_true]
    by_cases ha : (os ++ [n]).all namedM = true
    · rw [if_pos ha, if_pos rfl]
      by_cases hf : findM F.dir n < 0
      · rw [if_pos hf]; exact ⟨rfl, by decide⟩
      · exact absurd ⟨by simpa using hd, ha, hf⟩ h
    · rw [if_neg ha, if_neg (by decide)]; exact ⟨rfl, by decide⟩
theorem fnd_yes {F : Fs} {X : Gh} {n : ByteArray} {os : List ByteArray} (hd : F.down = false) (ha : (os ++ [n]).all namedM = true) (hf : ¬ findM F.dir n < 0) : fndM F X n os = (ptr (some (X.fb (findM F.dir n).toNat)), 0) := by
  unfold fndM chkM
  rw [hd]
  simp only [Bool.false_eq_true, if_false]
  rw [if_pos ha, if_pos rfl, if_neg hf]
theorem fnd_has (F : Fs) (X : Gh) (n : ByteArray) : (fndM F X n []).2 = hasM F n := by
  unfold fndM chkM hasM
  simp only [List.nil_append, List.all_cons, List.all_nil, Bool.and_true]
  by_cases hd : F.down
  · simp [hd]
  · simp only [hd, if_false, Bool.false_eq_true]
    by_cases ha : namedM n = true
    · rw [if_pos ha, if_pos rfl, if_pos ha]; split <;> rfl
    · rw [if_neg ha, if_neg (by decide), if_neg ha]
theorem has_zero {F : Fs} {n : ByteArray} : hasM F n = 0 ↔ F.down = false ∧ namedM n = true ∧ ¬ findM F.dir n < 0 := by
  unfold hasM
  by_cases hd : F.down
  · simp [hd]
  · simp only [hd, if_false, Bool.false_eq_true]
    by_cases ha : namedM n = true
    · rw [if_pos ha]
      by_cases hf : findM F.dir n < 0
      · rw [if_pos hf]; simp [hf]
      · rw [if_neg hf]; simp [ha, hf]
    · rw [if_neg ha]; simp [ha]
/-- The file of a name. -/
theorem FsC.named {w : World} {g : Nat} {X : Gh} {F : Fs} (h : FsC w g X F) {n : ByteArray} (hf : ¬ findM F.dir n < 0) : ∃ i : Nat, findM F.dir n = (i : Int) ∧ (findM F.dir n).toNat = i ∧ i < F.files.length ∧ Live F X i := by
  obtain ⟨x, hx, e1, e2⟩ := findM_mem hf
  have h1 := h.ok.dir.ge x hx
  have h2 := h.ok.dir.lt x hx
  exact ⟨x.2.toNat, by omega, by omega, by omega, Or.inl ⟨x, hx, by omega⟩⟩
theorem eM_sync (args : Array Value) (w : World) : (callFunc 47 args).run Tryz.prog w = .ok (.enter 47 args) w := by kernel_rfl
theorem own_file {g : Nat} {F : Fs} {X : Gh} {i : Nat} (h : Live F X i) : Own g F X (X.fb i) := Or.inr (Or.inr (Or.inr (Or.inl ⟨i, h, Or.inl rfl⟩)))
/-- One file is another one. -/
theorem FsP.file_set {w w' : World} {g : Nat} {X : Gh} {F : Fs} {i : Nat} {x : Fi} {pv : Value} {ps : List ByteArray} (h : FsP w g X F) (hl : Live F X i) (hf : FileAt w' (X.fb i) i x pv ps) (hm : ModP (fun k => k = X.fb i ∨ (X.pv i).ownBlock = some k) w w') (hloc : Loc w (X.pv i) pv) :
    Bec w g X F w' { X with pv := fun j => if j = i then pv else X.pv j, ps := fun j => if j = i then ps else X.ps j } { F with files := F.files.set i x } := by
  have hi := h.live_lt hl
  have hfi := h.file hl
  have hb := hfi.blk
  have key : ∀ {k : Nat} {cs : Array Value} {t : Nat} {fz : Nat × Nat}, w.heap[k]? = some (.cells cs t fz) → t ≠ 70 → t ≠ 9 → w'.heap[k]? = w.heap[k]? := fun {k cs t fz} hk h1 h2 => hm.oth k (row_lt hk) (fun hs => by
    rcases hs with rfl | hs
    · have := hk.symm.trans hb
      injection this with this
      injection this with _ h3
      exact h1 h3
    · obtain ⟨cur, hc'⟩ := own_type hfi.own hs
      have := hk.symm.trans hc'
      injection this with this
      injection this with _ h3
      exact h2 h3)
  have keym : ∀ {k n : Nat} {f : ByteArray → Option Nat}, MapIs w k n f → w'.heap[k]? = w.heap[k]? := fun {k n f} hk => hm.oth k hk.lt (fun hs => by
    rcases hs with rfl | hs
    · exact hk.ne hb rfl
    · obtain ⟨cur, hc⟩ := own_type hfi.own hs
      exact hk.ne hc rfl)
  obtain ⟨k1, hn⟩ := h.now
  obtain ⟨k2, hs⟩ := h.safe
  have hother : ∀ j, Live F X j → j ≠ i → ∀ y, F.files[j]? = some y → FileAt w' (X.fb j) j y (X.pv j) (X.ps j) := fun j hlj hji y hy => by
    obtain ⟨n1, n2⟩ := h.inj i j hl hlj (Ne.symm hji)
    obtain ⟨n3, n4⟩ := h.inj j i hlj hl hji
    have hfj := h.fil j y hlj hy
    refine hfj.to (hm.oth _ (row_lt hfj.blk) (fun hs => ?_)) (fun k hk => hm.oth k (own_lt hfj.own hk) (fun hs => ?_))
    · rcases hs with e | e
      · exact n3 e
      · obtain ⟨cur, hc⟩ := own_type hfi.own e
        have := hc.symm.trans hfj.blk
        injection this with this
        injection this with _ h3
        exact absurd h3 (by decide)
    · rcases hs with e | e
      · subst e
        obtain ⟨cur, hc⟩ := own_type hfj.own hk
        have := hc.symm.trans hb
        injection this with this
        injection this with _ h3
        exact absurd h3 (by decide)
      · exact n4 k hk e
  refine ⟨⟨⟨⟨fun k hk => ?_, h.ok.now, h.ok.cl, fun j hj => ?_, h.ok.ch⟩, ?_, ⟨k1, hn.to (keym hn)⟩, ⟨k2, hs.to (keym hs)⟩, h.mne, own_to h.chg (fun k hk => by obtain ⟨cur, hc⟩ := own_type h.chg hk; exact key hc (by decide) (by decide)), h.row.to (fun k hk => by obtain ⟨cur, hc⟩ := h.row.type hk; exact key hc (by decide) (by decide)), fun j y hlj hy => ?_, fun j1 j2 h1 h2 hn12 => ?_⟩, ⟨h.pln.srt, h.pln.ahead, h.pln.all, h.pln.cr⟩, fun q hq => ?_⟩, hm.weak (fun k _ hk => ?_), fun k hk => ?_, by simp⟩
  · show DOk (dirK F k) (F.files.set i x).length
    rw [List.length_set]; exact h.ok.dirs k hk
  · show j < (F.files.set i x).length
    rw [List.length_set]; exact h.ok.cfl j hj
  · show w'.heap[g]? = some (.cells #[.bool F.down, .int .i64 (F.steps : Int), .int .i64 ((F.files.set i x).length : Int), .map (some X.mn), .map (some X.ms), X.cv, X.qv] 60)
    rw [List.length_set]
    exact (key h.blk (by decide) (by decide)).trans h.blk
  · simp only []
    by_cases e : j = i
    · subst e
      rw [if_pos rfl, if_pos rfl]
      have : (F.files.set j x)[j]? = some x := by rw [List.getElem?_set]; simp [hi]
      rw [show (F.files.set j x)[j]? = some y from hy] at this
      cases this
      exact hf
    · rw [if_neg e, if_neg e]
      refine hother j hlj e y ?_
      have h2 : (F.files.set i x)[j]? = F.files[j]? := by rw [List.getElem?_set, if_neg (Ne.symm e)]
      rw [← h2]; exact hy
  · obtain ⟨n1, n2⟩ := h.inj j1 j2 h1 h2 hn12
    refine ⟨n1, fun k hk hk2 => ?_⟩
    simp only [] at hk hk2
    by_cases e1 : j1 = i
    · by_cases e2 : j2 = i
      · omega
      · rw [if_pos e1] at hk
        rw [if_neg e2] at hk2
        subst e1
        rcases hloc with h3 | h3
        · rw [h3] at hk; exact n2 k hk hk2
        · have := h3 k hk
          have := own_lt (h.file h2).own hk2
          omega
    · rw [if_neg e1] at hk
      by_cases e2 : j2 = i
      · rw [if_pos e2] at hk2
        subst e2
        rcases hloc with h3 | h3
        · rw [h3] at hk2; exact n2 k hk hk2
        · have := h3 k hk2
          have := own_lt (h.file h1).own hk
          omega
      · rw [if_neg e2] at hk2; exact n2 k hk hk2
  · have := h.hld q hq
    exact (show Holds w { F with files := F.files.set i x } q from ⟨this.cr, this.fl⟩).to (fun k cs t fz hk ht => key hk (fun e => ht (by rw [e]; exact Or.inr (Or.inl rfl))) (fun e => ht (by rw [e]; exact Or.inr (Or.inr (Or.inl rfl)))))
  · rcases hk with rfl | hk
    · exact own_file hl
    · exact Or.inr (Or.inr (Or.inr (Or.inl ⟨i, hl, Or.inr hk⟩)))
  · rcases hk with rfl | rfl | rfl | ⟨j, hlj, hk⟩ | hk | hk
    · exact Or.inl (Or.inl rfl)
    · exact Or.inl (Or.inr (Or.inl rfl))
    · exact Or.inl (Or.inr (Or.inr (Or.inl rfl)))
    · rcases hk with hk | hk
      · exact Or.inl (Or.inr (Or.inr (Or.inr (Or.inl ⟨j, hlj, Or.inl hk⟩))))
      · simp only [] at hk
        by_cases e : j = i
        · rw [if_pos e] at hk
          rcases hloc with h3 | h3
          · rw [h3] at hk; exact Or.inl (Or.inr (Or.inr (Or.inr (Or.inl ⟨i, hl, Or.inr hk⟩))))
          · exact Or.inr (h3 k hk)
        · rw [if_neg e] at hk; exact Or.inl (Or.inr (Or.inr (Or.inr (Or.inl ⟨j, hlj, Or.inr hk⟩))))
    · exact Or.inl (Or.inr (Or.inr (Or.inr (Or.inr (Or.inl hk)))))
    · exact Or.inl (Or.inr (Or.inr (Or.inr (Or.inr (Or.inr hk)))))
end Go.Proofs.YtencjopnbmbhkaaGreat
