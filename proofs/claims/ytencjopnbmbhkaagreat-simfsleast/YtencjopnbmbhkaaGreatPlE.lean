import Derived.Test.YtencjopnbmbhkaaGreatMJ
namespace Go.Proofs.YtencjopnbmbhkaaGreat
open Go.RowKit Go.Maps
set_option linter.unusedVariables false
set_option linter.unusedSimpArgs false
/-- a beginning. -/
def Pre (v u : ByteArray) : Prop := v.size ≤ u.size ∧ u.extract 0 v.size = v
theorem Pre.refl (v : ByteArray) : Pre v v := ⟨Nat.le_refl _, ext_all v⟩
theorem ext_ext (c : ByteArray) (m n : Nat) (h : n ≤ m) : (c.extract 0 m).extract 0 n = c.extract 0 n := by
  refine ByteArray.ext (Array.toList_inj.1 ?_)
  rw [ext_any, ext_any, ext_any]
  simp only [List.drop_zero, Nat.sub_zero]
  rw [List.take_take, Nat.min_eq_left h]
theorem ext_len (c : ByteArray) (m : Nat) : (c.extract 0 m).size = min m c.size := by simp
theorem Pre.trans {a b c : ByteArray} (h : Pre a b) (k : Pre b c) : Pre a c := ⟨Nat.le_trans h.1 k.1, by rw [← ext_ext c b.size a.size h.1, k.2, h.2]⟩
theorem Pre.cut (d : ByteArray) (n : Nat) : Pre (d.extract 0 n) d := by
  refine ⟨by rw [ext_len]; omega, ?_⟩
  rw [ext_len]
  by_cases h : n ≤ d.size
  · rw [Nat.min_eq_left h]
  · rw [Nat.min_eq_right (by omega), ext_all]
    refine (ByteArray.ext (Array.toList_inj.1 ?_)).symm
    rw [ext_any, List.drop_zero, Nat.sub_zero, List.take_of_length_le]
    simp; omega
theorem Pre.cuts (d : ByteArray) (m n : Nat) (h : m ≤ n) : Pre (d.extract 0 m) (d.extract 0 n) := by
  have h1 := Pre.cut (d.extract 0 n) m
  rw [ext_ext d n m h] at h1
  exact h1
/-- Nothing is planned, and the machine is up. -/
structure Calm (F : Fs) : Prop where
  up : F.down = false
  fl : F.fails = []
  cr : F.crash = 0
theorem stepM_calm {F : Fs} (h : Calm F) : stepM F = (up1 F, 0, 0) := by
  unfold stepM
  simp only []
  have hm : failM F.fails (F.steps + 1) = none := by rw [h.fl]; rfl
  rw [if_neg (by rw [h.cr]; omega), hm]
  rfl
/-- What a call makes of what is there. -/
def Mv (o : Po) (F F' : Fs) : Prop := Calm F' ∧
  ((o.k ≠ 4 ∧ F'.dir = F.dir ∧ F'.sure = F.sure ∧ F'.chg = F.chg ∧ F'.files = F.files)
  ∨ (o.k = 4 ∧ F'.dir = F.dir ∧ F'.sure = F.dir ∧ F'.chg = [] ∧ F'.files = F.files)
  ∨ (o.k ≠ 4 ∧ ∃ c more, F'.chg = F.chg ++ [c] ∧ F'.sure = F.sure ∧ F'.files = F.files ++ more)
  ∨ (o.k ≠ 4 ∧ F'.chg = F.chg ∧ F'.sure = F.sure ∧ F'.dir = F.dir ∧ ∃ i x, F'.files = F.files.set i x ∧ ∃ y ∈ F.dir, y.2.toNat = i))
theorem Mv.stay {o : Po} {F : Fs} (h : Calm F) (h4 : o.k ≠ 4) : Mv o F F := ⟨h, Or.inl ⟨h4, rfl, rfl, rfl, rfl⟩⟩
theorem mv_ite {o : Po} {F : Fs} {c : Prop} [Decidable c] {a b : Fs × Int} (ha : c → Mv o F a.1) (hb : ¬ c → Mv o F b.1) : Mv o F (if c then a else b).1 := by
  split
  · rename_i h; exact ha h
  · rename_i h; exact hb h
theorem calm_up {F : Fs} (h : Calm F) : Calm (up1 F) := ⟨h.up, h.fl, h.cr⟩
theorem has_mem {F : Fs} {n : ByteArray} (h : hasM F n = 0) : ∃ y ∈ F.dir, y.2.toNat = (findM F.dir n).toNat := by
  have hf : ¬ findM F.dir n < 0 := fun hn => by
    unfold hasM at h
    rw [if_pos hn] at h
    split at h
    · cases h
    · split at h <;> cases h
  obtain ⟨y, hy, _, e⟩ := findM_mem hf
  exact ⟨y, hy, by rw [e]⟩
theorem createM_mv {o : Po} {F : Fs} (h : Calm F) (h4 : o.k ≠ 4) (n : ByteArray) : Mv o F (createM F n).1 := by
  unfold createM
  refine mv_ite (fun _ => Mv.stay h h4) (fun _ => mv_ite (fun _ => mv_ite (fun _ => Mv.stay h h4) (fun _ => ?_)) (fun _ => Mv.stay h h4))
  simp only [stepM_calm h, if_true]
  exact ⟨⟨h.up, h.fl, h.cr⟩, Or.inr (Or.inr (Or.inl ⟨h4, _, _, rfl, rfl, rfl⟩))⟩
theorem appendM_mv {o : Po} {F : Fs} (h : Calm F) (h4 : o.k ≠ 4) (n d : ByteArray) : Mv o F (appendM F n d).1 := by
  unfold appendM
  refine mv_ite (fun h0 => ?_) (fun _ => Mv.stay h h4)
  refine mv_ite (fun _ => Mv.stay h h4) (fun _ => ?_)
  simp only [stepM_calm h]
  exact ⟨⟨h.up, h.fl, h.cr⟩, Or.inr (Or.inr (Or.inr ⟨h4, rfl, rfl, rfl, _, _, rfl, has_mem h0⟩))⟩
theorem syncM_mv {o : Po} {F : Fs} (h : Calm F) (h4 : o.k ≠ 4) (n : ByteArray) : Mv o F (syncM F n).1 := by
  unfold syncM
  refine mv_ite (fun h0 => ?_) (fun _ => Mv.stay h h4)
  simp only [stepM_calm h, if_true]
  exact ⟨⟨h.up, h.fl, h.cr⟩, Or.inr (Or.inr (Or.inr ⟨h4, rfl, rfl, rfl, _, _, rfl, has_mem h0⟩))⟩
theorem renameM_mv {o : Po} {F : Fs} (h : Calm F) (h4 : o.k ≠ 4) (n t : ByteArray) : Mv o F (renameM F n t).1 := by
  unfold renameM
  refine mv_ite (fun _ => Mv.stay h h4) (fun _ => mv_ite (fun _ => ?_) (fun _ => Mv.stay h h4))
  simp only [stepM_calm h, if_true]
  exact ⟨⟨h.up, h.fl, h.cr⟩, Or.inr (Or.inr (Or.inl ⟨h4, _, [], rfl, rfl, by rw [List.append_nil]; rfl⟩))⟩
theorem removeM_mv {o : Po} {F : Fs} (h : Calm F) (h4 : o.k ≠ 4) (n : ByteArray) : Mv o F (removeM F n).1 := by
  unfold removeM
  refine mv_ite (fun _ => ?_) (fun _ => Mv.stay h h4)
  simp only [stepM_calm h, if_true]
  exact ⟨⟨h.up, h.fl, h.cr⟩, Or.inr (Or.inr (Or.inl ⟨h4, _, [], rfl, rfl, by rw [List.append_nil]; rfl⟩))⟩
theorem syncDirM_mv {o : Po} {F : Fs} (h : Calm F) (h4 : o.k = 4) : Mv o F (syncDirM F).1 := by
  unfold syncDirM
  rw [h.up]
  simp only [stepM_calm h, if_true, Bool.false_eq_true, if_false]
  exact ⟨⟨h.up, h.fl, h.cr⟩, Or.inr (Or.inl ⟨h4, rfl, rfl, rfl, rfl⟩)⟩
theorem startM_mv {o : Po} {F : Fs} (h : Calm F) (h4 : o.k ≠ 4) : Mv o F (startM F).1 := by
  unfold startM
  rw [h.up]
  exact Mv.stay h h4
theorem done_mv {F : Fs} (h : Calm F) (o : Po) (h6 : o.k ≠ 6) (h7 : o.k ≠ 7) : Mv o F (doneM F o).1 := by
  unfold doneM
  refine mv_ite (fun e => createM_mv h (by omega) _) (fun _ => mv_ite (fun e => appendM_mv h (by omega) _ _) (fun _ => mv_ite (fun e => syncM_mv h (by omega) _) (fun _ => mv_ite (fun e => renameM_mv h (by omega) _ _) (fun _ => mv_ite (fun e => syncDirM_mv h e) (fun e4 => mv_ite (fun e => removeM_mv h (by omega) _) (fun _ => mv_ite (fun e => absurd e h6) (fun _ => mv_ite (fun e => absurd e h7) (fun _ => mv_ite (fun e => startM_mv h (by omega)) (fun _ => Mv.stay h e4)))))))))
/-- What there was at some moment since the last SyncDir. -/
def Ev (F : Fs) (E : List (ByteArray × ByteArray)) : Prop := ∀ j, j ≤ F.chg.length → ∀ x ∈ dirK F j, (∃ e ∈ E, e.1 = x.1) ∧ (∃ e ∈ E, Pre (fileAt F x.2.toNat).d e.2)
theorem Ev.mono {F : Fs} {E E' : List (ByteArray × ByteArray)} (h : Ev F E) (hs : ∀ e ∈ E, e ∈ E') : Ev F E' := fun j hj x hx => by
  obtain ⟨⟨e, he, h1⟩, ⟨e', he', h2⟩⟩ := h j hj x hx
  exact ⟨⟨e, hs e he, h1⟩, ⟨e', hs e' he', h2⟩⟩
theorem Ev.new : Ev newM [] := fun j hj x hx => by
  have : j = 0 := by simpa [newM] using hj
  subst this
  simp [dirK, newM] at hx
theorem now_mem {F : Fs} {x : Sl} (h : x ∈ F.dir) : (x.1, (fileAt F x.2.toNat).d) ∈ nowM F := List.mem_map.2 ⟨x, h, rfl⟩
theorem Ev.step {o : Po} {F F' : Fs} {E : List (ByteArray × ByteArray)} {cf cf' : List Nat} (hf : FOk F cf) (hf' : FOk F' cf') (h : Ev F E) (hm : Mv o F F') : Ev F' ((if o.k = 4 then [] else E) ++ nowM F') := by
  intro j hj x hx
  have hdir : x ∈ F'.dir → (∃ e ∈ (if o.k = 4 then [] else E) ++ nowM F', e.1 = x.1) ∧ (∃ e ∈ (if o.k = 4 then [] else E) ++ nowM F', Pre (fileAt F' x.2.toNat).d e.2) := fun hd => ⟨⟨_, List.mem_append_right _ (now_mem hd), rfl⟩, ⟨_, List.mem_append_right _ (now_mem hd), Pre.refl _⟩⟩
  obtain ⟨_, ⟨h4, hd, hs, hc, hfl⟩ | ⟨h4, hd, hs, hc, hfl⟩ | ⟨h4, c, more, hc, hs, hfl⟩ | ⟨h4, hc, hs, hd, i, y, hfl, z, hz, hzi⟩⟩ := hm
  · rw [if_neg h4]
    have hk : dirK F' j = dirK F j := by unfold dirK; rw [hc, hs]
    rw [hk] at hx
    rw [hc] at hj
    obtain ⟨⟨e, he, h1⟩, ⟨e', he', h2⟩⟩ := h j hj x hx
    exact ⟨⟨e, List.mem_append_left _ he, h1⟩, ⟨e', List.mem_append_left _ he', by unfold fileAt at h2 ⊢; rw [hfl]; exact h2⟩⟩
  · rw [hc] at hj
    have hj0 : j = 0 := by simpa using hj
    subst hj0
    refine hdir ?_
    have : dirK F' 0 = F'.sure := rfl
    rw [this, hs] at hx
    rw [hd]; exact hx
  · by_cases hjl : j ≤ F.chg.length
    · rw [if_neg h4]
      have hk : dirK F' j = dirK F j := by unfold dirK; rw [hc, hs, List.take_append_of_le_length hjl]
      rw [hk] at hx
      obtain ⟨⟨e, he, h1⟩, ⟨e', he', h2⟩⟩ := h j hjl x hx
      have hlt := (hf.dirs j hjl).lt x hx
      have hge := (hf.dirs j hjl).ge x hx
      refine ⟨⟨e, List.mem_append_left _ he, h1⟩, ⟨e', List.mem_append_left _ he', ?_⟩⟩
      have : fileAt F' x.2.toNat = fileAt F x.2.toNat := by
        unfold fileAt
        rw [hfl, List.getD_eq_getElem?_getD, List.getD_eq_getElem?_getD, List.getElem?_append_left (by omega)]
      rw [this]; exact h2
    · refine hdir ?_
      have hje : j = F'.chg.length := by
        have : F'.chg.length = F.chg.length + 1 := by rw [hc, List.length_append]; rfl
        omega
      rw [hje, hf'.now] at hx
      exact hx
  · rw [if_neg h4]
    have hk : dirK F' j = dirK F j := by unfold dirK; rw [hc, hs]
    rw [hk] at hx
    rw [hc] at hj
    obtain ⟨⟨e, he, h1⟩, ⟨e', he', h2⟩⟩ := h j hj x hx
    refine ⟨⟨e, List.mem_append_left _ he, h1⟩, ?_⟩
    by_cases hxi : x.2.toNat = i
    · have hzd : z ∈ F'.dir := by rw [hd]; exact hz
      exact ⟨_, List.mem_append_right _ (now_mem hzd), by rw [hzi, ← hxi]; exact Pre.refl _⟩
    · refine ⟨e', List.mem_append_left _ he', ?_⟩
      have : fileAt F' x.2.toNat = fileAt F x.2.toNat := by
        unfold fileAt
        rw [hfl, set_getD, if_neg (fun q => hxi q.1.symm)]
      rw [this]; exact h2
theorem downF_at (p : List Int) : ∀ (l : List Fi) (k i : Nat) (x : Fi), l[i]? = some x → (downF p k l)[i]? = some (cutF x (pickM p (k + i + 1) (x.d.size - x.s)))
  | [], _, _, _, h => by simp at h
  | y :: l, k, 0, x, h => by
    have : y = x := by simpa using h
    subst this
    simp [downF]
  | y :: l, k, i + 1, x, h => by
    have := downF_at p l (k + 1) i x (by simpa using h)
    simp only [downF, List.getElem?_cons_succ]
    rw [this]
    have : k + 1 + i + 1 = k + (i + 1) + 1 := by omega
    rw [this]
theorem down_file {F : Fs} (p : List Int) {i : Nat} (h : i < F.files.length) : fileAt (downM F p) i = cutF (fileAt F i) (pickM p (i + 1) ((fileAt F i).d.size - (fileAt F i).s)) := by
  unfold fileAt downM
  simp only
  have h1 := downF_at p F.files 0 i _ (List.getElem?_eq_getElem h)
  rw [List.getD_eq_getElem?_getD, h1, List.getD_eq_getElem?_getD, List.getElem?_eq_getElem h, Nat.zero_add]
  rfl
/-- What a crash leaves was there. -/
theorem down_was {F : Fs} {cf : List Nat} {E : List (ByteArray × ByteArray)} (hf : FOk F cf) (h : Ev F E) (p : List Int) {y : ByteArray × ByteArray} (hy : y ∈ nowM (downM F p)) : (∃ e ∈ E, e.1 = y.1) ∧ (∃ e ∈ E, Pre y.2 e.2) := by
  obtain ⟨x, hx, rfl⟩ := List.mem_map.1 hy
  have hj : pickM p 0 F.chg.length ≤ F.chg.length := pkM_le p 0 _
  have hx' : x ∈ dirK F (pickM p 0 F.chg.length) := hx
  obtain ⟨h1, e, he, h2⟩ := h _ hj x hx'
  have hlt := (hf.dirs _ hj).lt x hx'
  have hge := (hf.dirs _ hj).ge x hx'
  refine ⟨h1, e, he, Pre.trans ?_ h2⟩
  have := down_file (F := F) p (i := x.2.toNat) (by omega)
  show Pre (fileAt (downM F p) x.2.toNat).d _
  rw [this]
  exact Pre.cut _ _
/-- No change of the directory survives. -/
theorem down_safe {F : Fs} {cf : List Nat} (hf : FOk F cf) (p : List Int) (h0 : pickM p 0 F.chg.length = 0) : (nowM (downM F p)).length = (safeM F).length ∧ ∀ (k : Nat) (x : ByteArray × ByteArray), (safeM F)[k]? = some x → ∃ v, (nowM (downM F p)).find? (fun y => decide (y.1 = x.1)) = some (x.1, v) ∧ Pre x.2 v := by
  have hdir : (downM F p).dir = F.sure := by
    show (F.chg.take (pickM p 0 F.chg.length)).foldl afterM F.sure = F.sure
    rw [h0]; rfl
  refine ⟨by rw [now_len, safe_len, hdir], fun k x hx => ?_⟩
  have hk : k < F.sure.length := by
    have := (List.getElem?_eq_some_iff.1 hx).1
    rwa [safe_len] at this
  have hx' : x = (F.sure[k].1, (fileAt F F.sure[k].2.toNat).d.extract 0 (fileAt F F.sure[k].2.toNat).s) := by
    unfold safeM at hx
    rw [List.getElem?_map, List.getElem?_eq_getElem hk] at hx
    simpa [fileAt] using hx.symm
  have hin : F.sure[k] ∈ F.sure := List.getElem_mem hk
  have hlt := hf.sure.lt _ hin
  have hge := hf.sure.ge _ hin
  refine ⟨(fileAt (downM F p) F.sure[k].2.toNat).d, ?_, ?_⟩
  · have hnow : nowM (downM F p) = F.sure.map (fun y => (y.1, (fileAt (downM F p) y.2.toNat).d)) := by
      unfold nowM; rw [hdir]; rfl
    rw [hnow, hx', List.find?_map]
    have hfd : F.sure.find? ((fun y : ByteArray × ByteArray => decide (y.1 = F.sure[k].1)) ∘ fun y => (y.1, (fileAt (downM F p) y.2.toNat).d)) = some F.sure[k] := by
      show F.sure.find? (fun y => decide (y.1 = F.sure[k].1)) = some F.sure[k]
      have hr := hf.sure.rise
      rcases hq : F.sure.find? (fun y => decide (y.1 = F.sure[k].1)) with _ | z
      · have := List.find?_eq_none.1 hq F.sure[k] hin
        simp at this
      · have hz1 := List.mem_of_find?_eq_some hq
        have hz2 : z.1 = F.sure[k].1 := by simpa using List.find?_some hq
        have e1 := findM_in hr hz1
        have e2 := findM_in hr hin
        rw [hz2] at e1
        have : z = F.sure[k] := Prod.ext hz2 (by rw [← e1, ← e2])
        rw [hq, this]
    rw [hfd]
    rfl
  · rw [hx', down_file p (by omega)]
    exact Pre.cuts _ _ _ (Nat.le_add_right _ _)
end Go.Proofs.YtencjopnbmbhkaaGreat
