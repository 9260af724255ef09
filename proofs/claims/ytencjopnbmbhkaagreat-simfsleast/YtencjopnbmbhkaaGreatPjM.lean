import Derived.Test.YtencjopnbmbhkaaGreatPjK
import Derived.Test.YtencjopnbmbhkaaGreatPjF
namespace Go.Proofs.YtencjopnbmbhkaaGreat
open Go.RowKit Go.Maps
set_option linter.unusedVariables false
set_option linter.unusedSimpArgs false
/-! slices.DeleteFunc of the crash among the plans. -/
def okQ (q : Pq) : Bool := !q.c
theorem eM_cr1 (args : Array Value) (w : World) : (callFunc 40 args).run Tryz.prog w = .ok (.enter 40 args) w := by kernel_rfl
set_option maxHeartbeats 1000000 in
set_option maxRecDepth 100000 in
theorem indexQ_any (v : Value) (l : List Pq) (hl : l.length ≤ 2199023255552) (w : World) (h : KR plnE w v l) :
    Calls Tryz.prog 82 #[v, .func (.func 40) #[] #[]] w fun e w' => Below w.heap.size w w' ∧ ((∃ i : Nat, i < l.length ∧ e = .returned (.int .i64 (i : Int)) ∧ (∀ t (h : t < l.length), t < i → okQ l[t] = true) ∧ ∀ h : i < l.length, okQ l[i] = false) ∨ (e = .returned (.int .i64 (-1)) ∧ ∀ t (h : t < l.length), okQ l[t] = true)) := by
  obtain ⟨P, c, rfl⟩ := h.form
  have H : Hid (KR plnE w (.slice P l.length c) l) := h
  clear h
  go_enter Tryz.func82, Tryz.ntmps82
  go_wp2
  go_loopw [8] (fun ci wr => ∃ i : Nat, i ≤ l.length ∧ ci = .int .i64 (i : Int) ∧ Below w.heap.size w wr ∧ ∀ t (h : t < l.length), t < i → okQ l[t] = true) (fun ci _ => l.length - (intOf ci).toNat)
  case atStart => exact ⟨0, by omega, rfl, Below.refl _ _, fun t _ h => by omega⟩
  case round =>
    obtain ⟨i, hi, rfl, hb, hall⟩ := hrel
    have HBR : Hid (Below w.heap.size w wr) := hb
    have HALL : Hid _ := hall
    by_cases hlt : i < l.length
    · obtain ⟨E, o, c', he, hcell⟩ := (H.out.on hb).cell plnOk hlt
      injection he with he1 _ he2
      subst he1
      have x0 : wr.cell? ⟨E, o + i * 3, none⟩ = some (.int .i64 (l[i].s : Int)) := hcell 0 _ rfl
      have x1 : wr.cell? ⟨E, o + i * 3 + 1, none⟩ = some (.bool l[i].c) := hcell 1 _ rfl
      have x2 : wr.cell? ⟨E, o + i * 3 + 2, none⟩ = some (meetV l[i]) := hcell 2 _ rfl
      have hz0 : (0 : Int) ≤ (i : Int) := by omega
      have hz1 : (i : Int) < (l.length : Int) := by omega
      have hiw : IntKind.i64.wrap ((i : Int) + 1) = (i : Int) + 1 := by rw [IntKind.wrap_i64] <;> omega
      have HEI : Hid (∀ W, Calls Tryz.prog 40 #[.agg #[.int .i64 (l[i].s : Int), .bool l[i].c, meetV l[i]]] W fun e w' => e = .returned (.bool l[i].c) ∧ Below W.heap.size W w') := fun W => Crash1_any l[i] W
      have HO : Hid (okQ l[i] = !l[i].c) := rfl
      obtain ⟨b, hbb⟩ : ∃ b, l[i].c = b := ⟨_, rfl⟩
      obtain ⟨ys, hys⟩ : ∃ ys, l[i].s = ys := ⟨_, rfl⟩
      obtain ⟨mv, hmv⟩ : ∃ mv, meetV l[i] = mv := ⟨_, rfl⟩
      rw [hbb] at HO x1
      rw [hys] at x0
      rw [hmv] at x2
      rw [hbb, hys, hmv] at HEI
      clear hb hall hbb hys hmv hcell he2
      go_wp2_with fail
      refine (show Calls _ _ _ _ _ from HEI.out _).mono ?_
      rintro e w1 ⟨rfl, hb1⟩
      have HB1 : Hid (Below w.heap.size w w1) := bel_to HBR.out hb1 (Nat.le_refl _)
      clear hb1 x0 x1 x2
      cases b with
      | true =>
        go_wp2
        go_returns
        exact ⟨HB1.out, Or.inl ⟨i, hlt, rfl, HALL.out, fun _ => HO.out⟩⟩
      | false =>
        go_wp2
        go_roundw
        case rel =>
          refine ⟨i + 1, hlt, by first | rfl | congr 1, HB1.out, fun t ht hti => ?_⟩
          rcases Nat.lt_or_eq_of_le (Nat.le_of_lt_succ hti) with h1 | h1
          · exact HALL.out t ht h1
          · subst h1; exact HO.out
        case measure => simp [intOf]; omega
    · have he : i = l.length := by omega
      subst he
      clear hb hall
      go_wp2
      go_returns
      exact ⟨HBR.out, Or.inr ⟨rfl, fun t ht => HALL.out t ht ht⟩⟩
/-- what stands while plans go: i that stay, then from j on those not yet met. -/
structure DI (W : World) (E o c : Nat) (l : List Pq) (i j : Nat) : Prop where
  row : ∃ cur, W.heap[E]? = some (.cells cur 81) ∧ (o + c) * 3 ≤ cur.size ∧ (∀ (t : Nat) (u : Value), (plnE.fl ((l.take j).filter okQ))[t]? = some u → cur[o * 3 + t]? = some u) ∧ ∀ t (h : t < l.length), j ≤ t → ∀ (k : Nat) (v : Value), (plnE.enc l[t])[k]? = some v → cur[o * 3 + (t * 3 + k)]? = some v
  num : i = ((l.take j).filter okQ).length
theorem DI.on {W W' : World} {E o c i j : Nat} {l : List Pq} (h : DI W E o c l i j) (hb : Below W.heap.size W W') : DI W' E o c l i j := by
  obtain ⟨cur, h1, h2⟩ := h.row; exact ⟨⟨cur, (hb.block E (row_lt h1)).trans h1, h2⟩, h.num⟩
theorem takeQ_snoc (l : List Pq) (j : Nat) (h : j < l.length) : l.take (j + 1) = l.take j ++ [l[j]] := by rw [List.take_add_one, List.getElem?_eq_getElem h]; rfl
theorem DI.skip {W : World} {E o c i j : Nat} {l : List Pq} (h : DI W E o c l i j) (hj : j < l.length) (ho : okQ l[j] = !true) : DI W E o c l i (j + 1) := by
  obtain ⟨cur, h1, h2, h3, h5⟩ := h.row
  have e : (l.take (j + 1)).filter okQ = (l.take j).filter okQ := by
    rw [takeQ_snoc l j hj, List.filter_append, List.filter_cons_of_neg (by rw [ho]; simp), List.filter_nil, List.append_nil]
  exact ⟨⟨cur, h1, h2, by rw [e]; exact h3, fun t ht hjt => h5 t ht (by omega)⟩, by rw [e]; exact h.num⟩
theorem DI.put {W W' : World} {E o c i j : Nat} {l : List Pq} {cur : Array Value} (hs : (o + c) * 3 ≤ cur.size) (hc : l.length ≤ c) (h3 : ∀ (t : Nat) (u : Value), (plnE.fl ((l.take j).filter okQ))[t]? = some u → cur[o * 3 + t]? = some u) (h5 : ∀ t (h : t < l.length), j ≤ t → ∀ (k : Nat) (v : Value), (plnE.enc l[t])[k]? = some v → cur[o * 3 + (t * 3 + k)]? = some v) (hn : i = ((l.take j).filter okQ).length) (hj : j < l.length) (hij : i < j) (ho : okQ l[j] = !false)
    (hW : W'.heap[E]? = some (.cells (spl cur (o * 3 + i * 3) (plnE.enc l[j])) 81)) : DI W' E o c l (i + 1) (j + 1) := by
  have hl3 : (plnE.enc l[j]).length = 3 := rfl
  have hz : (o * 3 + i * 3) + (plnE.enc l[j]).length ≤ cur.size := by rw [hl3]; omega
  have e : (l.take (j + 1)).filter okQ = (l.take j).filter okQ ++ [l[j]] := by
    rw [takeQ_snoc l j hj, List.filter_append, List.filter_cons_of_pos (by rw [ho]; rfl), List.filter_nil]
  refine ⟨⟨_, hW, by rw [spl_size _ _ _ hz]; exact hs, fun t u hu => ?_, fun t ht hjt k v hv => ?_⟩, by rw [e, List.length_append, ← hn]; rfl⟩
  · rw [e, flq_app, fl_sing, List.getElem?_append, flq_len, ← hn] at hu
    rw [spl_get _ _ _ _ hz, hl3]
    by_cases h1 : t < i * 3
    · rw [if_pos h1] at hu
      rw [if_pos (by omega)]; exact h3 t u hu
    · rw [if_neg h1] at hu
      have := (List.getElem?_eq_some_iff.1 hu).1
      rw [hl3] at this
      rw [if_neg (by omega), if_pos (by omega), ← hu]
      congr 1; omega
  · rw [spl_get _ _ _ _ hz, hl3, if_neg (by omega), if_neg (by omega)]
    exact h5 t ht (by omega) k v hv
theorem DI.ini {W : World} {E o c i : Nat} {l : List Pq} (h : PX W E o c l) (hi : i < l.length) (hlo : ∀ t (h : t < l.length), t < i → okQ l[t] = true) (hat : ∀ h : i < l.length, okQ l[i] = false) : DI W E o c l i (i + 1) := by
  obtain ⟨cur, h1, h2, h3⟩ := h.row
  have e0 : (l.take i).filter okQ = l.take i := List.filter_eq_self.2 (fun x hx => by
    obtain ⟨t, ht, rfl⟩ := List.getElem_of_mem hx
    rw [List.length_take] at ht
    rw [List.getElem_take]; exact hlo t (by omega) (by omega))
  have e : (l.take (i + 1)).filter okQ = l.take i := by
    rw [takeQ_snoc l i hi, List.filter_append, List.filter_cons_of_neg (by rw [hat hi]; simp), List.filter_nil, List.append_nil, e0]
  refine ⟨⟨cur, h1, h2, fun t u hu => ?_, fun t ht _ k v hv => ?_⟩, by rw [e, List.length_take]; omega⟩
  · rw [e] at hu
    have hl := (List.getElem?_eq_some_iff.1 hu).1
    rw [flq_len, List.length_take] at hl
    rw [flq_take l i (by omega), List.getElem?_take_of_lt (by omega)] at hu
    exact h3 t u hu
  · exact h3 _ v (ET.fl_at plnOk l t ht k v hv)
end Go.Proofs.YtencjopnbmbhkaaGreat
