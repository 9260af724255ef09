import Derived.Test.YtencjopnbmbhkaaGreatPjN
import Derived.Test.YtencjopnbmbhkaaGreatPjL
import Derived.Test.YtencjopnbmbhkaaGreatPiC
import Derived.Test.YtencjopnbmbhkaaGreatShD
namespace Go.Proofs.YtencjopnbmbhkaaGreat
open Go.RowKit Go.Maps
set_option linter.unusedVariables false
set_option linter.unusedSimpArgs false
theorem pin_fl (p : List Int) : pinE.fl p = p.map (Value.int .i64) := by
  unfold ET.fl
  induction p with
  | nil => rfl
  | cons x p ih => rw [List.flatMap_cons, ih]; rfl
theorem own_zero {w : World} {b e k n : Nat} {v : Value} {xs : List Value} (h : w.ownsRow b e k v n xs) : w.ownsRow 0 e k v n xs := by
  obtain ⟨h0, h1 | ⟨g, cap, cur, h1, hb, r⟩⟩ := h
  · exact ⟨h0, Or.inl h1⟩
  · exact ⟨h0, Or.inr ⟨g, cap, cur, h1, Nat.zero_le _, r⟩⟩
theorem cloneI_any (v : Value) (p : List Int) (hp : p.length ≤ 17592186044416) (w : World) (h : KR pinE w v p) :
    Calls Tryz.prog 38 #[v] w fun e w' => ∃ v', e = .returned v' ∧ w'.ownsRow 0 3 1 v' p.length (pinE.fl p) ∧ Below w.heap.size w w' := by
  rw [pin_fl]
  rcases h with ⟨rfl, a, c, rfl, _⟩ | ⟨g, o, c, rfl, hc⟩
  · cases a with
    | none => exact (Tryz.slices_Clone_int_nil 0 c w).mono (fun e w' h => ⟨_, h.1, ⟨rfl, Or.inl ⟨rfl, rfl⟩⟩, by rw [h.2]; exact Below.refl _ _⟩)
    | some a => exact (Tryz.slices_Clone_int_zero a c w).mono (fun e w' h => by obtain ⟨v', h1, h2, _, h4⟩ := h; exact ⟨v', h1, own_zero h2, h4⟩)
  · refine (Tryz.slices_Clone_int g o p.length c p w (Nat.le_refl _) (by omega) (fun j hj => ?_)).mono (fun e w' h => ?_)
    · refine hc j _ ?_
      rw [pin_fl, List.getElem?_map, List.getElem?_eq_getElem hj]
      simp [List.getD, List.getElem?_eq_getElem hj]
    · obtain ⟨v', h1, h2, _, h4⟩ := h
      rw [List.take_length] at h2
      exact ⟨v', h1, own_zero h2, h4⟩
/-- A crash is planned. -/
theorem Plans.crash {F : Fs} {qs qs' : List Pq} {q0 : Pq} {p : List Int} (h : Plans F qs) (hl : LayF (qs.filter okQ) q0 qs') (hc : q0.c = true) (hs : F.steps < q0.s) : Plans { F with crash := (q0.s : Int), picks := p } qs' := by
  refine ⟨hl.srt, fun q hq => ?_, fun n r hn hf => ?_, fun n hn hf => ?_⟩
  · rcases hl.new q hq with rfl | ⟨hq, _⟩
    · exact hs
    · exact h.ahead q (List.mem_filter.1 hq).1
  · obtain ⟨q, hq, h1, h2⟩ := h.all n r hn hf
    obtain ⟨q', hq', e1, e2⟩ := hl.old q (List.mem_filter.2 ⟨hq, by unfold okQ; rw [h1]; rfl⟩)
    exact ⟨q', hq', e2.trans h1, e1.trans h2⟩
  · have : (q0.s : Int) = (n : Int) := hf
    exact ⟨q0, hl.mem, hc, by omega⟩
theorem filter_srt {qs : List Pq} (h : qs.Pairwise ltQ) : (qs.filter okQ).Pairwise ltQ := h.sublist List.filter_sublist
/-- A crash was laid in. -/
theorem FsP.crash_laid {w W0 w' : World} {g b : Nat} {X : Gh} {F : Fs} {q0 : Pq} {p : List Int} {v qv1 : Value} {e : Ending} (h : FsP w g X F) (hm0 : ModP (fun k => k = g ∨ X.qv.ownBlock = some k) w W0)
    (hg0 : W0.heap[g]? = some (.cells #[.bool F.down, .int .i64 (F.steps : Int), .int .i64 (F.files.length : Int), .map (some X.mn), .map (some X.ms), X.cv, qv1] 60)) (hr0 : PRow W0 qv1 (X.qs.filter okQ)) (hq1 : ∀ k, qv1.ownBlock = some k → X.qv.ownBlock = some k)
    (hb : W0.heap[b]? = some (.cells #[v] 23)) (hv : W0.ownsRow 0 3 1 v p.length (pinE.fl p)) (hc : q0.c = true) (hqb : q0.b = b) (hs : F.steps < q0.s)
    (hL : LayP W0 g (.bool F.down) (.int .i64 (F.steps : Int)) (.int .i64 (F.files.length : Int)) (.map (some X.mn)) (.map (some X.ms)) X.cv qv1 (X.qs.filter okQ) q0 e w') : e = .returned (.tuple #[]) ∧ ∃ X', Bec w g X F w' X' { F with crash := (q0.s : Int), picks := p } := by
  obtain ⟨he, qv', qs', hl, hg', hrow', hk', hm'⟩ := hL
  have hf := hl.facts (filter_srt h.pln.srt)
  have hkeep0 : ∀ {k : Nat} {cs : Array Value} {t : Nat} {fz : Nat × Nat}, W0.heap[k]? = some (.cells cs t fz) → ¬ tyOwn t → w'.heap[k]? = W0.heap[k]? := fun {k cs t fz} hk ht => hm'.oth k (row_lt hk) (fun hs => by
    rcases hs with rfl | hs
    · exact ht (by rw [row_ty hk hg0]; exact Or.inl rfl)
    · obtain ⟨cur, hc⟩ := hr0.type hs
      exact ht (by rw [row_ty hk hc]; exact Or.inr (Or.inr (Or.inr (Or.inr rfl)))))
  have hkeepw : ∀ {k : Nat} {cs : Array Value} {t : Nat} {fz : Nat × Nat}, w.heap[k]? = some (.cells cs t fz) → ¬ tyOwn t → W0.heap[k]? = w.heap[k]? := fun {k cs t fz} hk ht => hm0.oth k (row_lt hk) (fun hs => by
    rcases hs with rfl | hs
    · exact ht (by rw [row_ty hk h.blk]; exact Or.inl rfl)
    · obtain ⟨cur, hc⟩ := h.row.type hs
      exact ht (by rw [row_ty hk hc]; exact Or.inr (Or.inr (Or.inr (Or.inr rfl)))))
  have hmm : ModP (fun k => k = g ∨ X.qv.ownBlock = some k) w w' := hm0.andThen hm' (fun k _ hk => hk.imp id (fun e => hq1 k e))
  have hC := h.toFsC.repl (F' := { F with crash := (q0.s : Int), picks := p }) hmm ⟨rfl, rfl, rfl, rfl⟩ hg' hrow'
  have hP : FsP w' g { X with qv := qv', qs := qs' } { F with crash := (q0.s : Int), picks := p } := by
    refine ⟨hC, h.pln.crash hf hc hs, fun q hq => ?_⟩
    rcases hf.new q hq with rfl | ⟨hq', hn⟩
    · refine ⟨fun _ => ⟨rfl, v, ?_, ?_⟩, fun h => (by rw [hc] at h; cases h)⟩
      · rw [hqb]; exact (hkeep0 hb (by unfold tyOwn; decide)).trans hb
      · exact own_to hv (fun k hk => by obtain ⟨cur, hcu⟩ := own_type hv hk; exact hkeep0 hcu (by unfold tyOwn; decide))
    · obtain ⟨hq2, hok⟩ := List.mem_filter.1 hq'
      have hcf : q.c = false := by unfold okQ at hok; simpa using hok
      obtain ⟨r, h1, h2⟩ := (h.hld q hq2).fl hcf
      refine ⟨fun h => (by rw [hcf] at h; cases h), fun _ => ⟨r, ?_, h2⟩⟩
      have e1 := (hkeepw h1 (by unfold tyOwn; decide)).trans h1
      exact (hkeep0 e1 (by unfold tyOwn; decide)).trans e1
  refine ⟨he, _, Bec.repl h.toFsC hmm ⟨rfl, rfl, rfl, rfl⟩ hP (fun k hk => (hk' k hk).imp (hq1 k) (fun q => Nat.le_trans hm0.size q)) ?_⟩
  have := hf.len
  have h2 := List.length_filter_le okQ X.qs
  omega
end Go.Proofs.YtencjopnbmbhkaaGreat
