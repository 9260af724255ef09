import Derived.Test.YtlheilkofibogaaGreatQAA
import Derived.Laws.AppendOwnNone
import Derived.Laws.AppendOwn
import Derived.Lib.ItoaMem
import Derived.Deep.RegionHeld3
namespace Go.Proofs.YtlheilkofibogaaGreat
open Go.RowKit
set_option linter.unusedVariables false
/-- A type of elements, and how one is laid into cells. -/
structure ET (α : Type) where
  enc : α → List Value
  k : Nat
  by_ : Nat
  T : TypeId
  ST : TypeId
  z : Value
structure ETok {α : Type} (E : ET α) : Prop where
  und : Tryz.prog.underlying E.ST = some (.slice E.T)
  inf : (Tryz.prog.info? E.T).map (fun i => (i.zero, i.size, i.bytes)) = some (some E.z, E.k, E.by_)
  zc : E.z.cells.size = E.k
  kp : 0 < E.k
  len : ∀ x, (E.enc x).length = E.k
  one : ∀ x u, u ∈ E.enc x → u.oneCell' = true
def ET.fl {α : Type} (E : ET α) (l : List α) : List Value := l.flatMap E.enc
theorem info_of {e k b : Nat} {z : Value} (h : (Tryz.prog.info? e).map (fun i => (i.zero, i.size, i.bytes)) = some (some z, k, b)) : ∃ i, Tryz.prog.info? e = some i ∧ i.zero = some z ∧ i.size = k ∧ i.bytes = b := by
  rcases hi : Tryz.prog.info? e with _ | i
  · rw [hi] at h; cases h
  · rw [hi] at h
    simp at h
    exact ⟨i, rfl, h.1, h.2.1, h.2.2⟩
section
variable {α : Type} {E : ET α}
theorem ET.fl_len (ok : ETok E) (l : List α) : (E.fl l).length = l.length * E.k := by
  induction l with
  | nil => simp [ET.fl]
  | cons x l ih =>
    unfold ET.fl at *
    rw [List.flatMap_cons, List.length_append, ih, ok.len, List.length_cons]
    rw [Nat.succ_mul]; omega
theorem ET.fl_app (l l' : List α) : E.fl (l ++ l') = E.fl l ++ E.fl l' := by unfold ET.fl; rw [List.flatMap_append]
theorem ET.fl_one (ok : ETok E) (l : List α) : ∀ u ∈ E.fl l, u.oneCell' = true := by
  intro u hu
  unfold ET.fl at hu
  obtain ⟨e, _, he⟩ := List.mem_flatMap.1 hu
  exact ok.one e u he
theorem ET.fl_at (ok : ETok E) (l : List α) (j : Nat) (hj : j < l.length) (i : Nat) (u : Value) (hu : (E.enc l[j])[i]? = some u) : (E.fl l)[j * E.k + i]? = some u := by
  induction l generalizing j with
  | nil => simp at hj
  | cons x l ih =>
    have hi : i < E.k := by have := ok.len ((x :: l)[j]); obtain ⟨h1, _⟩ := List.getElem?_eq_some_iff.1 hu; omega
    unfold ET.fl
    rw [List.flatMap_cons]
    cases j with
    | zero =>
      rw [Nat.zero_mul, Nat.zero_add, List.getElem?_append_left (by rw [ok.len]; exact hi)]
      exact hu
    | succ j =>
      have h2 := ih j (by simpa using hj) (by simpa using hu)
      rw [List.getElem?_append_right (by rw [ok.len, Nat.succ_mul]; omega), ok.len]
      have : (j + 1) * E.k + i - E.k = j * E.k + i := by rw [Nat.succ_mul]; omega
      rw [this]
      exact h2
/-- A row in memory. -/
def KR (E : ET α) (w : World) (v : Value) (l : List α) : Prop :=
  (l = [] ∧ ∃ p c, v = .slice p 0 c ∧ (p = none → c = 0)) ∨ ∃ g o cap, v = .slice (some ⟨g, o, none⟩) l.length cap ∧ ∀ j u, (E.fl l)[j]? = some u → w.cell? ⟨g, o + j, none⟩ = some u
theorem KR.nil {w : World} : KR E w (.slice none 0 0) [] := Or.inl ⟨rfl, none, 0, rfl, fun _ => rfl⟩
theorem KR.form {w : World} {v : Value} {l : List α} (h : KR E w v l) : ∃ P c, v = .slice P l.length c := by
  rcases h with ⟨rfl, p, c, rfl, _⟩ | ⟨g, o, cap, rfl, _⟩
  · exact ⟨p, c, rfl⟩
  · exact ⟨_, _, rfl⟩
theorem KR.on {w w' : World} {v : Value} {l : List α} (h : KR E w v l) (hb : Below w.heap.size w w') : KR E w' v l := by
  rcases h with h | ⟨g, o, cap, rfl, hc⟩
  · exact Or.inl h
  · exact Or.inr ⟨g, o, cap, rfl, fun j u hu => cell_on (hc j u hu) hb⟩
theorem KR.cell (ok : ETok E) {w : World} {v : Value} {l : List α} (h : KR E w v l) {j : Nat} (hj : j < l.length) : ∃ g o c, v = .slice (some ⟨g, o, none⟩) l.length c ∧ ∀ i u, (E.enc l[j])[i]? = some u → w.cell? ⟨g, o + j * E.k + i, none⟩ = some u := by
  rcases h with ⟨rfl, _⟩ | ⟨g, o, cap, rfl, hc⟩
  · simp at hj
  · refine ⟨g, o, cap, rfl, fun i u hu => ?_⟩
    have := hc _ u (ET.fl_at ok l j hj i u hu)
    rw [← Nat.add_assoc] at this
    exact this
theorem KR.own {w : World} {base n : Nat} {v : Value} {l : List α} (h : w.ownsRow base E.T E.k v n (E.fl l)) (hn : n = l.length) : KR E w v l := by
  obtain ⟨_, ⟨rfl, h0⟩ | ⟨g, cap, cur, rfl, hb, hg, h1, h2, h3, h4⟩⟩ := h
  · exact Or.inl ⟨List.eq_nil_of_length_eq_zero (by omega), none, 0, rfl, fun _ => rfl⟩
  · subst hn
    refine Or.inr ⟨g, 0, cap, rfl, fun j u hu => ?_⟩
    rw [cell_of_row _ _ _ _ _ _ hg, ← Array.getElem?_toList, Nat.zero_add]
    have h5 : (cur.toList.take (l.length * E.k))[j]? = some u := by rw [h4]; exact hu
    obtain ⟨h6, _⟩ := List.getElem?_eq_some_iff.1 h5
    rw [List.length_take] at h6
    rw [List.getElem?_take_of_lt (by omega)] at h5
    exact h5
/-- append(own, row...). -/
theorem wpList_app (ok : ETok E) {w : World} {ops : Array Oper} {rest : List Oper} {o : Oper} {a : Act} {Q' : Exit → Act → World → Prop} (hg : o.guard = none) (s x : Operand)
    (hop : o.op = Op.call { callee := Callee.builtin Builtin.append, args := #[s, x], argTypes := #[E.ST, E.ST] })
    (base : Nat) (v : Value) (xs : List α) (n : Nat) (hn : n = xs.length) (hs : a.eval s = v) (hown : w.ownsRow base E.T E.k v n (E.fl xs)) (r : Value) (l : List α) (hx : a.eval x = r) (hr : KR E w r l)
    (N : Nat) (hN : N = xs.length + l.length) (hl : xs.length + l.length ≤ maxLen) (hby : (xs.length + l.length) * E.by_ ≤ 140737488355328) (hb : base ≤ w.heap.size)
    (h : ∀ v' w', w'.ownsRow base E.T E.k v' N (E.fl (xs ++ l)) → w.grownBy w' v.ownBlock → wpList Tryz.prog ops Q' rest (a.put o.dst v') w') :
    wpList Tryz.prog ops Q' (o :: rest) a w := by
  subst hn
  subst hN
  obtain ⟨i0, hi, hz0, hz1, hz2⟩ := info_of ok.inf
  rcases hr with ⟨rfl, p, c, rfl, hpc⟩ | ⟨g, oo, cap, rfl, hc⟩
  · cases p with
    | none =>
      obtain rfl := hpc rfl
      refine wpList_append_own_none hg s x E.ST hop base E.T i0 E.k ok.und hi v xs.length (E.fl xs) hs hown hx ?_
      exact h v w (by rw [List.append_nil]; exact hown) ⟨rfl, rfl, rfl, Nat.le_refl _, fun k _ _ => rfl⟩
    | some ad =>
      refine wpList_append_own w hg s x E.ST hop base E.T i0 E.z E.k E.by_ ok.und hi hz0 hz1 hz2 ok.zc ok.kp v xs.length (E.fl xs) hs hown ad 0 c [] hx (by simp) (fun j u hu => by simp at hu) (fun u hu => by cases hu) (by simpa using hl) (by simpa using hby) hb ?_
      intro v' w' ho hgw _
      exact h v' w' (by simpa using ho) hgw
  · refine wpList_append_own w hg s x E.ST hop base E.T i0 E.z E.k E.by_ ok.und hi hz0 hz1 hz2 ok.zc ok.kp v xs.length (E.fl xs) hs hown ⟨g, oo, none⟩ l.length cap (E.fl l) hx (ET.fl_len ok l) ?_ (ET.fl_one ok l) hl hby hb ?_
    · intro j u hj
      rw [Lib.add_plain]
      exact hc j u hj
    · intro v' w' ho hgw _
      refine h v' w' ?_ hgw
      rw [ET.fl_app]; exact ho
end
end Go.Proofs.YtlheilkofibogaaGreat
namespace Go.Proofs.YtlheilkofibogaaGreat
open Go.RowKit
set_option linter.unusedVariables false
set_option linter.unusedSimpArgs false
def slE : ET Sl := ⟨fun x => [.string x.1, .int .i64 x.2], 2, 24, 112, 26, .agg #[.string ⟨#[]⟩, .int .i64 0]⟩
theorem slOk : ETok slE := ⟨Tryz.underlying26, by kernel_rfl, rfl, by decide, fun _ => rfl, fun x u hu => by simp [slE] at hu; rcases hu with rfl | rfl <;> rfl⟩
def fiE : ET Fi := ⟨fun x => [.string x.d, .int .i64 (x.s : Int)], 2, 24, 109, 25, .agg #[.string ⟨#[]⟩, .int .i64 0]⟩
theorem fiOk : ETok fiE := ⟨Tryz.underlying25, by kernel_rfl, rfl, by decide, fun _ => rfl, fun x u hu => by simp [fiE] at hu; rcases hu with rfl | rfl <;> rfl⟩
def chE : ET Ch := ⟨fun x => [.string x.n, .string x.t, .int .i64 x.f], 3, 40, 119, 27, .agg #[.string ⟨#[]⟩, .string ⟨#[]⟩, .int .i64 0]⟩
theorem chOk : ETok chE := ⟨Tryz.underlying27, by kernel_rfl, rfl, by decide, fun _ => rfl, fun x u hu => by simp [chE] at hu; rcases hu with rfl | rfl | rfl <;> rfl⟩
def plE : ET (Int × Int) := ⟨fun x => [.int .i64 x.1, .int .i64 x.2], 2, 16, 122, 28, .agg #[.int .i64 0, .int .i64 0]⟩
theorem plOk : ETok plE := ⟨Tryz.underlying28, by kernel_rfl, rfl, by decide, fun _ => rfl, fun x u hu => by simp [plE] at hu; rcases hu with rfl | rfl <;> rfl⟩
def inE : ET Int := ⟨fun x => [.int .i64 x], 1, 8, 3, 29, .int .i64 0⟩
theorem inOk : ETok inE := ⟨Tryz.underlying29, by kernel_rfl, rfl, by decide, fun _ => rfl, fun x u hu => by simp [inE] at hu; rcases hu with rfl; rfl⟩
def paE : ET (ByteArray × ByteArray) := ⟨fun x => [.string x.1, .string x.2], 2, 32, 48, 42, .agg #[.string ⟨#[]⟩, .string ⟨#[]⟩]⟩
theorem paOk : ETok paE := ⟨Tryz.underlying42, by kernel_rfl, rfl, by decide, fun _ => rfl, fun x u hu => by simp [paE] at hu; rcases hu with rfl | rfl <;> rfl⟩
def stE : ET ByteArray := ⟨fun x => [.string x], 1, 16, 9, 44, .string ⟨#[]⟩⟩
theorem stOk : ETok stE := ⟨Tryz.underlying44, by kernel_rfl, rfl, by decide, fun _ => rfl, fun x u hu => by simp [stE] at hu; rcases hu with rfl; rfl⟩
theorem r_ba_ne {a b : ByteArray} (h : a ≠ b) : a.data.toList ≠ b.data.toList := fun h2 => h (by
  cases a with | mk x => cases b with | mk y => exact congrArg _ (Array.toList_inj.1 h2))
theorem findM_hit {d : List Sl} {n : ByteArray} {i : Nat} (hi : i < d.length) (hn : ∀ j (h : j < d.length), j < i → d[j].1 ≠ n) (he : d[i].1 = n) : findM d n = d[i].2 := by
  induction d generalizing i with
  | nil => simp at hi
  | cons x d ih =>
    cases i with
    | zero => simp at he; simp [findM, he]
    | succ i =>
      have h0 : x.1 ≠ n := hn 0 (by simp) (by omega)
      have := ih (i := i) (by simpa using hi) (fun j h hj => hn (j + 1) (by simpa using h) (by omega)) (by simpa using he)
      simp only [findM, List.find?_cons, h0, decide_false] at *
      simpa using this
theorem findM_miss {d : List Sl} {n : ByteArray} (hn : ∀ j (h : j < d.length), d[j].1 ≠ n) : findM d n = -1 := by
  have : d.find? (fun x => decide (x.1 = n)) = none := by
    rw [List.find?_eq_none]
    intro x hx
    obtain ⟨j, hj, rfl⟩ := List.getElem_of_mem hx
    simpa using hn j hj
  simp [findM, this]
set_option maxHeartbeats 1000000 in
theorem r_find_any (v : Value) (d : List Sl) (hd : d.length ≤ 3298534883328) (n : ByteArray) (w : World) (h : KR slE w v d) : Calls Tryz.prog 71 #[v, .string n] w fun e w' => e = .returned (.int .i64 (findM d n)) ∧ w' = w := by
  obtain ⟨P, c, rfl⟩ := h.form
  have H : Hid (KR slE w (.slice P d.length c) d) := h
  clear h
  go_enter Tryz.func71, Tryz.ntmps71
  go_wp2
  go_loopw [5] (fun ci wr => wr = w ∧ ∃ i : Nat, i ≤ d.length ∧ ci = .int .i64 (i : Int) ∧ ∀ j (h : j < d.length), j < i → d[j].1 ≠ n) (fun ci _ => d.length - (intOf ci).toNat)
  case atStart => exact ⟨rfl, 0, by omega, rfl, fun j _ h => absurd h (by omega)⟩
  case round =>
    obtain ⟨rfl, i, hi, rfl, hall⟩ := hrel
    have HALL : Hid (∀ j (h : j < d.length), j < i → d[j].1 ≠ n) := hall
    clear hall
    by_cases hlt : i < d.length
    · obtain ⟨g, o, c', he, hc⟩ := H.out.cell slOk hlt
      injection he with he1 _ he2
      subst he1
      have c0 : wr.cell? ⟨g, o + i * 2, none⟩ = some (.string d[i].1) := hc 0 _ rfl
      have c1 : wr.cell? ⟨g, o + i * 2 + 1, none⟩ = some (.int .i64 d[i].2) := hc 1 _ rfl
      have hz0 : (0 : Int) ≤ (i : Int) := by omega
      have hz1 : (i : Int) < (d.length : Int) := by omega
      have hiw : IntKind.i64.wrap ((i : Int) + 1) = (i : Int) + 1 := by rw [IntKind.wrap_i64] <;> omega
      clear hc he2
      by_cases hx : d[i].1 = n
      · have HF : Hid (findM d n = d[i].2) := findM_hit hlt HALL.out hx
        obtain ⟨X, hX⟩ : ∃ X, d[i].1 = X := ⟨_, rfl⟩
        obtain ⟨Y, hY⟩ : ∃ Y, d[i].2 = Y := ⟨_, rfl⟩
        rw [hX] at c0 hx
        rw [hY] at c1 HF
        have hxt : (X.toList == n.toList) = true := str_same (by rw [hx])
        clear hX hY hx
        go_wp2
        go_ret
        exact ⟨by rw [HF.out]; rfl, rfl⟩
      · have HNE : Hid (d[i].1 ≠ n) := hx
        obtain ⟨X, hX⟩ : ∃ X, d[i].1 = X := ⟨_, rfl⟩
        rw [hX] at c0 hx
        have hxf : (X.toList == n.toList) = false := str_other (r_ba_ne hx)
        clear hX hx c1
        go_wp2
        go_roundw
        case rel =>
          refine ⟨trivial, i + 1, hlt, rfl, fun j h hj => ?_⟩
          rcases Nat.lt_succ_iff_lt_or_eq.1 hj with h2 | rfl
          · exact HALL.out j h h2
          · exact HNE.out
        case measure => simp [intOf]; omega
    · have he : i = d.length := by omega
      have HF : Hid (findM d n = -1) := findM_miss (fun j h => HALL.out j h (by omega))
      subst he
      go_wp2
      go_ret
      exact ⟨by rw [HF.out]; rfl, rfl⟩
end Go.Proofs.YtlheilkofibogaaGreat
namespace Go.Proofs.YtlheilkofibogaaGreat
open Go.RowKit
set_option linter.unusedVariables false
set_option linter.unusedSimpArgs false
theorem lit1 : (⟨#[46]⟩ : ByteArray).toList = [46] := by rw [ByteArray.toList_eq]
theorem lit2 : (⟨#[46, 46]⟩ : ByteArray).toList = [46, 46] := by rw [ByteArray.toList_eq]
set_option maxHeartbeats 4000000 in
theorem named_any (s : ByteArray) (hs : s.size ≤ 140737488355328) (w : World) : Calls Tryz.prog 76 #[.string s] w fun e w' => e = .returned (.bool (namedM s)) ∧ w' = w := by
  by_cases h0 : s.size = 0
  · have e0 : s.toList.isEmpty = true := str_empty h0
    have HN : Hid (namedM s = false) := by show _ = _; simp [namedM, h0]
    clear h0
    go_enter Tryz.func76, Tryz.ntmps76
    go_wp2
    go_ret
    exact ⟨by rw [HN.out]; rfl, rfl⟩
  have e0 : s.toList.isEmpty = false := str_full h0
  by_cases h64 : 64 < s.size
  · have hz : (64 : Int) < (s.size : Int) := by omega
    have HN : Hid (namedM s = false) := by show _ = _; simp [namedM]; omega
    clear h0 h64
    go_enter Tryz.func76, Tryz.ntmps76
    go_wp2
    go_ret
    exact ⟨by rw [HN.out]; rfl, rfl⟩
  have hz : ¬ (64 : Int) < (s.size : Int) := by omega
  by_cases h1 : s.data.toList = [46]
  · have e1 : (s.toList == [46]) = true := by rw [← lit1]; exact str_same h1
    have HN : Hid (namedM s = false) := by show _ = _; simp [namedM, h1]
    clear h0 h64 h1
    go_enter Tryz.func76, Tryz.ntmps76
    go_wp2
    go_ret
    exact ⟨by rw [HN.out]; rfl, rfl⟩
  have e1 : (s.toList == [46]) = false := by rw [← lit1]; exact str_other h1
  by_cases h2 : s.data.toList = [46, 46]
  · have e2 : (s.toList == [46, 46]) = true := by rw [← lit2]; exact str_same h2
    have HN : Hid (namedM s = false) := by show _ = _; simp [namedM, h2]
    clear h0 h64 h1 h2
    go_enter Tryz.func76, Tryz.ntmps76
    go_wp2
    go_ret
    exact ⟨by rw [HN.out]; rfl, rfl⟩
  have e2 : (s.toList == [46, 46]) = false := by rw [← lit2]; exact str_other h2
  have HN : Hid (namedM s = s.data.toList.all (fun c => okC c.toNat)) := by
    show _ = _
    have a : decide (0 < s.size) = true := by simp; omega
    have b : decide (s.size ≤ 64) = true := by simp; omega
    have c : (s.data.toList == [46]) = false := by simpa using h1
    have d : (s.data.toList == [46, 46]) = false := by simpa using h2
    unfold namedM
    rw [a, b, c, d]
    simp
  have hb : s.size ≤ 64 := by omega
  clear h0 h64 h1 h2
  go_enter Tryz.func76, Tryz.ntmps76
  go_wp2
  go_loopw [3] (fun ci wr => wr = w ∧ ∃ i : Nat, i ≤ s.size ∧ ci = .int .i64 (i : Int) ∧ (s.data.toList.take i).all (fun c => okC c.toNat) = true) (fun ci _ => s.size - (intOf ci).toNat)
  case atStart => exact ⟨rfl, 0, by omega, rfl, by simp⟩
  case round =>
    obtain ⟨rfl, i, hi, rfl, hall⟩ := hrel
    by_cases hlt : i < s.size
    · have hat : s.data.toList[i]? = some s[i] := at_list s i hlt
      have htk : s.data.toList.take (i + 1) = s.data.toList.take i ++ [s[i]] := by rw [List.take_add_one, hat]; rfl
      have HALL : Hid (∀ b, okC s[i].toNat = b → (s.data.toList.take (i + 1)).all (fun c => okC c.toNat) = b) := fun b hb => by
        rw [htk, List.all_append, hall]
        simp [hb]
      have HBAD : Hid (okC s[i].toNat = false → namedM s = false) := fun hb => by
        rw [HN.out, List.all_eq_false]
        exact ⟨s[i], List.mem_of_getElem? hat, by simp [hb]⟩
      clear hall htk hat
      have hz0 : (0 : Int) ≤ (i : Int) := by omega
      have hz1 : (i : Int) < (s.size : Int) := by omega
      have hiw : IntKind.i64.wrap ((i : Int) + 1) = (i : Int) + 1 := by rw [IntKind.wrap_i64] <;> omega
      have HI : Hid (i < s.size) := hlt

      go_wp2
      all_goals
        first
        | (go_roundw
           case rel => exact ⟨trivial, i + 1, HI.out, rfl, HALL.out _ (by simp [okC]; first | omega | (rename_i hl; simp at hl; omega) | (rename_i q1 q2 q3 q4; simp at q1; omega) | (rename_i q1 q2 q3; simp at q1; omega) | (rename_i q1 q2; simp at q1; omega) | (rename_i q1 q2 q3 q4 q5; simp at q1; omega))⟩
           case measure => (have := HI.out; simp [intOf]; omega))
        | (go_ret
           exact ⟨by rw [HBAD.out (by simp [okC]; first | omega | (rename_i hl; simp at hl; omega) | (rename_i q1 q2 q3 q4; simp at q1; omega) | (rename_i q1 q2 q3; simp at q1; omega) | (rename_i q1 q2; simp at q1; omega) | (rename_i q1 q2 q3 q4 q5; simp at q1; omega))]; rfl, rfl⟩)
    · have he : i = s.size := by omega
      have HF : Hid (namedM s = true) := by
        show _ = _
        rw [HN.out, ← hall, he, ← list_len, List.take_length]
      subst he
      clear hall
      go_wp2
      go_ret
      exact ⟨by rw [HF.out]; rfl, rfl⟩
end Go.Proofs.YtlheilkofibogaaGreat
