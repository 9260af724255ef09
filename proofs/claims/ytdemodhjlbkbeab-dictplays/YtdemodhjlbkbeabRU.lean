import Derived.Test.YtdemodhjlbkbeabRI
import Derived.Test.YtdemodhjlbkbeabRL
import Derived.Test.YtdemodhjlbkbeabRM
import Derived.Test.YtdemodhjlbkbeabRT
import Derived.Test.YtdemodhjlbkbeabRO
import Derived.Test.YtdemodhjlbkbeabRows
import Derived.ProofKit
import Derived.OpenShut
import Derived.ShutString
import Derived.SizedLaws
import Derived.Deep.Slices
import Derived.Deep.Grids
import Derived.Carry
import Derived.Lib.ItoaMem
namespace Go.Proofs.Ytdemodhjlbkbeab
open Go.RowKit
set_option linter.unusedVariables false
/-- a row of texts in memory. -/
def StrRow (W : World) (v : Value) (ss : List ByteArray) : Prop := ∃ ad cap, v = .slice ad ss.length cap ∧ (ss ≠ [] → ∃ g off, ad = some ⟨g, off, none⟩ ∧ ∀ j (h : j < ss.length), W.cell? ⟨g, off + j, none⟩ = some (.string ss[j]))
theorem StrRow.nil (W : World) : StrRow W (.slice none 0 0) [] := ⟨none, 0, rfl, fun h => absurd rfl h⟩
theorem StrRow.of_own {W : World} {base n : Nat} {v : Value} {ss : List (List UInt8)} (h : W.ownsRow base 9 1 v n (ss.map encStr)) (hn : n = ss.length) : StrRow W v (ss.map strB) := by
  subst hn
  rcases h.2 with ⟨rfl, h0⟩ | ⟨g, cap, cur, rfl, _, hg, _, _, _, ht⟩
  · have : ss = [] := List.length_eq_zero_iff.1 h0
    subst this; exact StrRow.nil W
  · refine ⟨some ⟨g, 0, none⟩, cap, by simp, fun _ => ⟨g, 0, rfl, fun j hj => ?_⟩⟩
    rw [List.length_map] at hj
    rw [Nat.zero_add, cell_of_row _ _ _ _ _ _ hg]
    have this : (cur.toList.take (ss.length * 1))[j]? = (ss.map encStr)[j]? := by rw [ht]
    rw [List.getElem?_take_of_lt (by omega), Array.getElem?_toList] at this
    rw [this, List.getElem?_map, List.getElem?_eq_getElem hj, List.getElem_map]
    rfl
abbrev keysOf (D : DS) : List ByteArray := D.all.map (·.1)
abbrev strV (ss : List ByteArray) : List Value := ss.map Value.string
theorem StrRow.of_vals {W : World} {base n : Nat} {v : Value} {ss : List ByteArray} (h : W.ownsRow base 9 1 v n (strV ss)) (hn : n = ss.length) : StrRow W v ss := by
  subst hn
  rcases h.2 with ⟨rfl, h0⟩ | ⟨g, cap, cur, rfl, _, hg, _, _, _, ht⟩
  · have : ss = [] := List.length_eq_zero_iff.1 h0
    subst this; exact StrRow.nil W
  · refine ⟨some ⟨g, 0, none⟩, cap, rfl, fun _ => ⟨g, 0, rfl, fun j hj => ?_⟩⟩
    rw [Nat.zero_add, cell_of_row _ _ _ _ _ _ hg]
    have this : (cur.toList.take (ss.length * 1))[j]? = (ss.map Value.string)[j]? := by rw [ht]
    rw [List.getElem?_take_of_lt (by omega), Array.getElem?_toList] at this
    rw [this, List.getElem?_map, List.getElem?_eq_getElem hj]
    rfl
theorem keyV_str (M : List Ent) : keyV M = strV (M.map (·.1)) := by unfold keyV strV; rw [List.map_map]; rfl
theorem enc_str (l : List (List UInt8)) : l.map encStr = strV (l.map strB) := by unfold strV; rw [List.map_map]; rfl
theorem val_one {D : DS} (h : DInv D) {k : ByteArray} {a b : Int} (ha : (k, a) ∈ D.all) (hb : (k, b) ∈ D.all) : a = b := by
  have hn := h.nd
  generalize D.all = l at *
  induction l with
  | nil => cases ha
  | cons x l ih =>
    rw [List.map_cons, List.nodup_cons] at hn
    rcases List.mem_cons.1 ha with e1 | e1 <;> rcases List.mem_cons.1 hb with e2 | e2
    · rw [← e1] at e2; injection e2 with _ e; exact e.symm
    · exact absurd (List.mem_map.2 ⟨_, e2, by rw [← e1]⟩) hn.1
    · exact absurd (List.mem_map.2 ⟨_, e1, by rw [← e2]⟩) hn.1
    · exact ih e1 e2 hn.2
theorem own_lower {w : World} {b b' e size n : Nat} {v : Value} {xs : List Value} (h : w.ownsRow b' e size v n xs) (hb : b ≤ b') : w.ownsRow b e size v n xs := by
  refine ⟨h.1, ?_⟩
  rcases h.2 with q | ⟨a1, a2, a3, a4, a5, a6⟩
  · exact Or.inl q
  · exact Or.inr ⟨a1, a2, a3, a4, by omega, a6⟩
set_option maxHeartbeats 1000000 in
set_option maxRecDepth 100000 in
theorem same_any (v1 v2 : Value) (ss : List ByteArray) (hl : ss.length ≤ 9223372036854775807) (w : World) (h1 : StrRow w v1 ss) (h2 : StrRow w v2 ss) : Calls Try.prog 15 #[v1, v2] w fun e w' => e = .returned (.bool true) ∧ Below w.heap.size w w' := by
  obtain ⟨ad1, cap1, rfl, hc1⟩ := h1
  obtain ⟨ad2, cap2, rfl, hc2⟩ := h2
  have HC1 : Hid _ := hc1
  have HC2 : Hid _ := hc2
  clear hc1 hc2
  go_enter Try.func15, Try.ntmps15
  go_wp2
  go_loopw [5] (fun ci wr => Below w.heap.size w wr ∧ ∃ j : Nat, j ≤ ss.length ∧ ci = .int .i64 (j : Int)) (fun ci _ => ss.length - (intOf ci).toNat)
  case atStart => exact ⟨Below.refl _ _, 0, Nat.zero_le _, rfl⟩
  case round =>
    obtain ⟨hb, j, hj, rfl⟩ := hrel
    have HB : Hid (Below w.heap.size w wr) := hb
    by_cases hlt : j < ss.length
    · obtain ⟨g1, o1, rfl, hcell1⟩ := HC1.out (fun e => by rw [e] at hlt; simp at hlt)
      obtain ⟨g2, o2, rfl, hcell2⟩ := HC2.out (fun e => by rw [e] at hlt; simp at hlt)
      have e1 := cell_on (hcell1 j hlt) hb
      have e2 := cell_on (hcell2 j hlt) hb
      have hz3 : (0 : Int) ≤ (j : Int) := by omega
      have hz4 : (j : Int) < (ss.length : Int) := by omega
      have hsame : (ss[j].toList == ss[j].toList) = true := by simp
      have hjw : IntKind.i64.wrap ((j : Int) + 1) = (j : Int) + 1 := by rw [IntKind.wrap_i64] <;> omega
      clear hcell1 hcell2 hb
      generalize ss[j] = X at *
      go_wp2_with fail
      go_quiet (fail)
      have HB2 : Hid (Below w.heap.size w (wr.drewN nq)) := below_dn HB.out nq
      go_wp2
      go_roundw
      case rel => exact ⟨HB2.out, j + 1, hlt, by simp⟩
      case measure => simp [intOf]; omega
    · clear hb
      go_wp2
      go_returns
      exact ⟨rfl, HB.out⟩
theorem own_lt {w : World} {base e size n : Nat} {v : Value} {xs : List Value} (h : w.ownsRow base e size v n xs) : ∀ q, v.ownBlock = some q → q < w.heap.size := fun q hq => (World.ownsRow.lt h q hq).2
theorem strV_app (A B : List ByteArray) : strV (A ++ B) = strV A ++ strV B := by unfold strV; rw [List.map_append]
theorem keysS_str (D : DS) (x : ByteArray) : x ∈ (keysS D).map strB ↔ x ∈ keysOf D := by
  constructor
  · intro h
    obtain ⟨K, hK, rfl⟩ := List.mem_map.1 h
    have h1 := (keysS_perm D).mem_iff.1 hK
    unfold keyB at h1
    obtain ⟨e, he, rfl⟩ := List.mem_map.1 h1
    exact List.mem_map.2 ⟨e, he, rfl⟩
  · intro h
    obtain ⟨e, he, rfl⟩ := List.mem_map.1 h
    refine List.mem_map.2 ⟨e.1.data.toList, (keysS_perm D).mem_iff.2 ?_, rfl⟩
    exact List.mem_map.2 ⟨e, he, rfl⟩
end Go.Proofs.Ytdemodhjlbkbeab
namespace Go.Proofs.Ytdemodhjlbkbeab
open Go.ChangeShapes Go.WideShapes Go.RowKit
set_option linter.unusedVariables false
/-- a step of a script in memory. -/
structure OpAt (W : World) (g off i : Nat) (kd : Int) (k : ByteArray) (n : Int) : Prop where
  a : W.cell? ⟨g, off + i * 3, none⟩ = some (.int .i64 kd)
  b : W.cell? ⟨g, off + i * 3 + 1, none⟩ = some (.string k)
  c : W.cell? ⟨g, off + i * 3 + 2, none⟩ = some (.int .i64 n)
  k : k.size ≤ 140737488351232
  n : -9223372036854775808 ≤ n ∧ n ≤ 9223372036854775807
theorem OpAt.lt {W : World} {g off i : Nat} {kd : Int} {k : ByteArray} {n : Int} (h : OpAt W g off i kd k n) : g < W.heap.size := lt_of_cell h.a
theorem OpAt.keep {W W' : World} {g off i : Nat} {kd : Int} {k : ByteArray} {n : Int} (h : OpAt W g off i kd k n) (hb : Below W.heap.size W W') : OpAt W' g off i kd k n :=
  ⟨cell_on h.a hb, cell_on h.b hb, cell_on h.c hb, h.k, h.n⟩
theorem cellsI : Try.prog.cellsOf 3 = 1 := by kernel_rfl
theorem cellsS : Try.prog.cellsOf 9 = 1 := by kernel_rfl
theorem cellsOx : Try.prog.cellsOf 33 = 3 := by kernel_rfl
theorem bytesOx : Try.prog.bytesOf 33 = 32 := by kernel_rfl
theorem weights_elem {H : Type} (P : Program) (e : TypeId) (l : List (DataW H)) (d : DataW H) (hd : d ∈ l) (n : Nat) (hn : n ∈ d.weights P e) : n ∈ DataW.weightsAll P e l := by
  induction l with
  | nil => cases hd
  | cons y l ih =>
    simp only [DataW.weightsAll, List.mem_append]
    rcases List.mem_cons.1 hd with rfl | h
    · exact Or.inl hn
    · exact Or.inr (ih h)
set_option maxRecDepth 100000 in
theorem open_ops {H : Type} {enc : TypeId × Value → H} {W : World} {fuel : Nat} {ad : Option Addr} {len cap : Nat} {x : DataW H × List MemPlace} {ts : List TypeId} {ds : List (DataW H)} {j : Nat}
    (h : DataW.trod enc Try.prog W 0 (fun _ => true) true fuel 22 [.slice ad len cap] = some x)
    (hsz : (DataW.weightsEach Try.prog ts ds).all (· ≤ reachBytes) = true) (ht : ts[j]? = some 22) (hd : ds[j]? = some x.1) :
    ∃ g off, (len ≠ 0 → ad = some ⟨g, off, none⟩) ∧ len ≤ 4398046510976 ∧ ∀ i, i < len → ∃ kd k n, OpAt W g off i kd k n := by
  rcases Go.Deep.open_slice Try.underlying22 h with ⟨hcs, hx⟩ | ⟨a, len', cap', m, n, D, Pl, hcs, _, hl, hm, hmm, hx, hcell⟩
  · simp at hcs
    obtain ⟨rfl, rfl, rfl⟩ := hcs
    exact ⟨0, 0, fun h => absurd rfl h, Nat.zero_le _, fun i hi => by omega⟩
  · simp at hcs
    obtain ⟨rfl, rfl, rfl⟩ := hcs
    subst hx
    simp only [if_true] at hmm
    subst hmm
    have hw : ∀ i, i < len → ∀ z, z ∈ (D i).weights Try.prog 33 → z ≤ reachBytes := by
      intro i hi z hz
      have hmem : z ∈ DataW.weightsEach Try.prog ts ds := by
        refine DataW.weights_mem_each ht hd _ ?_
        simp only [DataW.weights, Try.underlying22, List.mem_cons, List.mem_append]
        exact Or.inr (Or.inl (weights_elem _ _ _ (D i) (List.mem_map.2 ⟨i, List.mem_range.2 hi, rfl⟩) z hz))
      have := List.all_eq_true.1 hsz _ hmem
      exact of_decide_eq_true this
    have hlen : len ≤ 4398046510976 := by
      have := sized_slice hsz ht hd Try.underlying22
      rw [bytesOx] at this
      simp only [List.length_map, List.length_range, reachBytes] at this
      omega
    obtain ⟨g, off, spot⟩ := a
    have hsp : len ≠ 0 → spot = none := fun h => by
      obtain ⟨cs', h1, h2⟩ := hcell 0 (by omega)
      rw [cellsOx] at h1
      obtain ⟨_, hlen4, hc4⟩ := World.cells?_some h1
      have c0 := hc4 0 (by omega)
      obtain ⟨v0, hv0⟩ : ∃ v0, cs'[0]? = some v0 := ⟨_, List.getElem?_eq_getElem (by omega)⟩
      rw [hv0] at c0
      simpa [Addr.add] using World.cell?_spot c0
    refine ⟨g, off, fun h => by rw [hsp h], hlen, fun i hi => ?_⟩
    obtain ⟨cs', h1, h2⟩ := hcell i (by omega)
    have hs := hsp (by omega)
    subst hs
    rw [cellsOx] at h1
    obtain ⟨_, hlen4, hc4⟩ := World.cells?_some h1
    obtain ⟨xs, k, hk, hxy, _, hxl, hf⟩ := DataW.trod_struct Try.underlying33 h2
    match xs, hxl, cs', hlen4 with
    | [y0, y1, y2], _, [v0, v1, v2], _ =>
      have g0 := hf 0 _ rfl
      have g1 := hf 1 _ rfl
      have g2 := hf 2 _ rfl
      simp [cellsI, cellsS] at g0 g1 g2
      have c0 := hc4 0 (by omega)
      have c1 := hc4 1 (by omega)
      have c2 := hc4 2 (by omega)
      rw [Go.Deep.add_add] at c0 c1 c2
      simp only [Prod.mk.injEq] at hxy
      obtain ⟨z0, e0, _, _⟩ := DataW.trod_int Try.underlying3 g0
      obtain ⟨z1, e1, hy1, _⟩ := DataW.trod_string Try.underlying9 g1
      obtain ⟨z2, e2, _, hw2⟩ := DataW.trod_int Try.underlying3 g2
      simp at e0 e1 e2
      simp [Lit.wf, IntKind.min, IntKind.max, IntKind.signed, IntKind.bits] at hw2
      have hks : z1.size ≤ 140737488351232 := by
        have hz' : z1.size ∈ (D i).weights Try.prog 33 := by
          rw [hxy.1]
          simp only [DataW.weights, Try.underlying33]
          refine DataW.weights_mem_each (j := 1) rfl rfl _ ?_
          rw [hy1]
          simp [DataW.weights]
        have := hw i hi _ hz'
        simpa [reachBytes] using this
      subst e0; subst e1; subst e2
      rw [Lib.add_plain] at c0 c1 c2
      refine ⟨z0, z1, z2, ?_, ?_, ?_, hks, ⟨by omega, by omega⟩⟩
      · simpa using c0
      · simpa [Nat.add_assoc] using c1
      · simpa [Nat.add_assoc] using c2
end Go.Proofs.Ytdemodhjlbkbeab
