import Derived.Test.YtfkcpilkhdbpoaaGreatDoorAN
import Derived.Test.YtfkcpilkhdbpoaaGreatDoorShelf
namespace Go.Proofs.YtfkcpilkhdbpoaaGreatDoor.S6
open Go.RowKit Vi
set_option linter.unusedVariables false
def tl (l : List UInt8) : List UInt8 := l.drop 1
theorem head_tl (s : ByteArray) (h : 0 < s.size) : s.data.toList = s[0] :: tl s.data.toList := by
  have := drop_more s.data.toList 0 s[0] (at_list s 0 h)
  simpa [tl] using this
theorem full_str (s : ByteArray) (h : 0 < s.size) : s.toList.isEmpty = false := by
  rw [ByteArray.toList_eq, head_tl s h]; rfl
theorem empty_str (s : ByteArray) (h : s.size = 0) : s = ⟨#[]⟩ := by
  apply WideShapes.bytes_inj
  have := list_len s
  rw [h] at this
  rw [List.length_eq_zero_iff.1 this]
theorem var_on {n : String} {cs : Array Value} {w w' : World} (h : w.var? Tryz.prog n = some cs) (hb : Below w.heap.size w w') : w'.var? Tryz.prog n = some cs := by
  unfold World.var? at h ⊢
  cases hg : Tryz.prog.globalNamed n with
  | none => rw [hg] at h; simp at h
  | some g =>
    rw [hg] at h
    simp only [Option.bind_some] at h ⊢
    have hlt : g < w.heap.size := by
      rcases Nat.lt_or_ge g w.heap.size with h' | h'
      · exact h'
      · rw [Array.getElem?_eq_none h'] at h; cases h
    rw [hb.block g hlt]
    exact h
/-- what the library's variables hold. -/
structure Laid (w : World) : Prop where
  tab : Lib.TabIs Tryz.prog w "internal/strconv.uint64pow10" .u64 Lib.pow10Tab
  syn : ∃ tp p, w.var? Tryz.prog "strconv.ErrSyntax" = some #[.iface tp p]
  rng : ∃ tp p, w.var? Tryz.prog "strconv.ErrRange" = some #[.iface tp p]
theorem Laid.on {w w' : World} (h : Laid w) (hb : Below w.heap.size w w') : Laid w' := by
  refine ⟨?_, ?_, ?_⟩
  · exact var_on h.tab hb
  · obtain ⟨tp, p, e⟩ := h.syn
    exact ⟨tp, p, var_on e hb⟩
  · obtain ⟨tp, p, e⟩ := h.rng
    exact ⟨tp, p, var_on e hb⟩
theorem below_grow (w : World) (k : Nat) (os : Array Obj) : Below w.heap.size w (Sort.grow (w.drewN k) os) :=
  ⟨rfl, rfl, rfl, by simp [Sort.grow], fun j hj => by simp [Sort.grow, Array.getElem?_append, hj]⟩

def numT (l : List UInt8) : Value := match numberOf l with
  | some v => .tuple #[.int .i64 v, .bool true]
  | none => .tuple #[.int .i64 0, .bool false]
theorem numT_some {l : List UInt8} {v : Int} (h : numberOf l = some v) : numT l = .tuple #[.int .i64 v, .bool true] := by unfold numT; rw [h]
theorem numT_none {l : List UInt8} (h : numberOf l = none) : numT l = .tuple #[.int .i64 0, .bool false] := by unfold numT; rw [h]

def bodyB (s : ByteArray) : ByteArray := ⟨(body s.data.toList).toArray⟩
theorem bodyB_list (s : ByteArray) : (bodyB s).data.toList = body s.data.toList := by unfold bodyB; simp
theorem trim_any (s : ByteArray) (w : World) :
    Calls Tryz.prog 359 #[.string s, .string ⟨#[45]⟩] w fun e w' => e = .returned (.string (bodyB s)) ∧ w' = w :=
  Tryz.strings_TrimPrefix s ⟨#[45]⟩ w

theorem zero_same {s : ByteArray} (h : s.data.toList = [48]) : (s.toList == [48]) = true := by rw [ByteArray.toList_eq, h]; rfl
theorem zero_other {s : ByteArray} (h : s.data.toList ≠ [48]) : (s.toList == [48]) = false := by rw [ByteArray.toList_eq]; simpa using h

set_option maxHeartbeats 400000 in
theorem number_zero (s : ByteArray) (h : s.data.toList = [48]) (w : World) :
    Calls Tryz.prog 309 #[.string s] w fun e w' => e = .returned (numT s.data.toList) ∧ Below w.heap.size w w' := by
  have he := zero_same h
  have HR : Hid _ := numT_some (l := s.data.toList) (v := 0) (by rw [h]; exact numberOf_zero)
  clear h
  go_enter Tryz.func309, Tryz.ntmps309
  go_wp2
  go_ret2
  exact ⟨by rw [HR.out]; rfl, Below.refl _ _⟩
theorem no_head {l : List UInt8} (h : l ≠ [48]) (hb : ∀ c r, body l = c :: r → ¬ (49 ≤ c.toNat ∧ c.toNat ≤ 57)) : numberOf l = none := by
  cases hn : numberOf l with
  | none => rfl
  | some v =>
    rcases numberOf_head hn with e | ⟨c, r, e, h1, h2⟩
    · exact absurd e h
    · exact absurd ⟨h1, h2⟩ (hb c r e)
set_option maxHeartbeats 400000 in
theorem number_nobody (s : ByteArray) (h : s.data.toList ≠ [48]) (hb : (bodyB s).size = 0) (w : World) :
    Calls Tryz.prog 309 #[.string s] w fun e w' => e = .returned (numT s.data.toList) ∧ Below w.heap.size w w' := by
  have he := zero_other h
  have HR : Hid _ := numT_none (no_head h (fun c r e => by
    have h1 := list_len (bodyB s)
    rw [bodyB_list, e, hb] at h1
    simp at h1))
  have hz : (bodyB s).toList.isEmpty = true := by rw [empty_str _ hb, ByteArray.toList_eq]; rfl
  clear h hb
  go_enter Tryz.func309, Tryz.ntmps309
  go_wp2_with fail
  refine (trim_any s _).mono ?_
  rintro e w1 ⟨rfl, rfl⟩
  go_wp2
  go_ret2
  exact ⟨by rw [HR.out]; rfl, Below.refl _ _⟩
theorem body_at (s : ByteArray) (hb : 0 < (bodyB s).size) : body s.data.toList = (bodyB s)[0] :: tl (body s.data.toList) := by
  have := head_tl (bodyB s) hb
  rw [bodyB_list] at this
  exact this
set_option maxRecDepth 20000 in
set_option maxHeartbeats 400000 in
theorem number_lo (s : ByteArray) (h : s.data.toList ≠ [48]) (hb : 0 < (bodyB s).size) (hc : ((bodyB s)[0].toNat : Int) < 49) (w : World) :
    Calls Tryz.prog 309 #[.string s] w fun e w' => e = .returned (numT s.data.toList) ∧ Below w.heap.size w w' := by
  have he := zero_other h
  have HR : Hid _ := numT_none (no_head h (fun c r e => by rw [body_at s hb] at e; injection e with e1 _; rw [← e1]; omega))
  have hz := full_str (bodyB s) hb
  have t1 : decide (((bodyB s)[0].toNat : Int) < 49) = true := by simpa using hc
  clear h hc
  go_enter Tryz.func309, Tryz.ntmps309
  go_wp2_with fail
  refine (trim_any s _).mono ?_
  rintro e w1 ⟨rfl, rfl⟩
  go_wp2
  go_ret2
  exact ⟨by rw [HR.out]; rfl, Below.refl _ _⟩
set_option maxRecDepth 20000 in
set_option maxHeartbeats 400000 in
theorem number_hi (s : ByteArray) (h : s.data.toList ≠ [48]) (hb : 0 < (bodyB s).size) (hc : 57 < ((bodyB s)[0].toNat : Int)) (w : World) :
    Calls Tryz.prog 309 #[.string s] w fun e w' => e = .returned (numT s.data.toList) ∧ Below w.heap.size w w' := by
  have he := zero_other h
  have HR : Hid _ := numT_none (no_head h (fun c r e => by rw [body_at s hb] at e; injection e with e1 _; rw [← e1]; omega))
  have hz := full_str (bodyB s) hb
  have t1 : decide (((bodyB s)[0].toNat : Int) < 49) = false := by simp; omega
  have t2 : decide ((57 : Int) < ((bodyB s)[0].toNat : Int)) = true := by simpa using hc
  clear h hc
  go_enter Tryz.func309, Tryz.ntmps309
  go_wp2_with fail
  refine (trim_any s _).mono ?_
  rintro e w1 ⟨rfl, rfl⟩
  go_wp2
  go_ret2
  exact ⟨by rw [HR.out]; rfl, Below.refl _ _⟩
theorem parse_ok (s : ByteArray) (hs : s.size ≤ 281474976710656) (v : Int) (h : Lib.parseIntB 64 s.data.toList = .ok v) (w : World) :
    Calls Tryz.prog 360 #[.string s, .int .i64 10, .int .i64 64] w fun e w' => e = .returned (.tuple #[.int .i64 v, .nilIface]) ∧ Below w.heap.size w w' := by
  refine (Tryz.strconv_ParseInt_10_at64_ok s (by omega) v h w).mono ?_
  rintro e w' ⟨rfl, rfl | ⟨t, rfl⟩⟩
  · exact ⟨rfl, Below.refl _ _⟩
  · exact ⟨rfl, Lib.bytesWorld_below _ _ _⟩
theorem parse_no (s : ByteArray) (hs : s.size ≤ 281474976710656) (h : ∀ v, Lib.parseIntB 64 s.data.toList ≠ .ok v) (w : World) (hL : Laid w) :
    Calls Tryz.prog 360 #[.string s, .int .i64 10, .int .i64 64] w fun e w' => ∃ n t p, e = .returned (.tuple #[.int .i64 n, .iface t p]) ∧ Below w.heap.size w w' := by
  rcases hp : Lib.parseIntB 64 s.data.toList with v | _ | _
  · exact absurd hp (h v)
  · obtain ⟨tp, p, hv⟩ := hL.syn
    refine (Any.strconv_ParseInt_10_at64_syntax_var Tryz.laysC174 s hs hp tp p w hv).mono ?_
    rintro e w' ⟨N, rfl, _, _, hb⟩
    exact ⟨_, _, _, rfl, hb⟩
  · obtain ⟨tp, p, hv⟩ := hL.rng
    refine (Any.strconv_ParseInt_10_at64_range_var Tryz.laysC174 s hs hp tp p w hv).mono ?_
    rintro e w' ⟨N, rfl, _, _, hb⟩
    exact ⟨_, _, _, rfl, hb⟩
set_option maxRecDepth 20000 in
set_option maxHeartbeats 400000 in
theorem number_ok (s : ByteArray) (hs : s.size ≤ 281474976710656) (h : s.data.toList ≠ [48]) (hb : 0 < (bodyB s).size) (hc0 : 49 ≤ ((bodyB s)[0].toNat : Int)) (hc : ((bodyB s)[0].toNat : Int) ≤ 57) (v : Int) (hv : Lib.parseIntB 64 s.data.toList = .ok v) (w : World) :
    Calls Tryz.prog 309 #[.string s] w fun e w' => e = .returned (numT s.data.toList) ∧ Below w.heap.size w w' := by
  have he := zero_other h
  have HN : numberOf s.data.toList = some v := numberOf_parse (body_at s hb) (by omega) (by omega) hv
  have HR : Hid _ := numT_some HN
  have hz := full_str (bodyB s) hb
  have HP : Hid _ := parse_ok s hs v hv
  obtain ⟨_, hv0, hv1, _⟩ := numberOf_some HN
  have t1 : decide (((bodyB s)[0].toNat : Int) < 49) = false := by simp; omega
  have t2 : decide ((57 : Int) < ((bodyB s)[0].toNat : Int)) = false := by simp; omega
  clear h hc hc0 HN hv hs
  go_enter Tryz.func309, Tryz.ntmps309
  go_wp2_with fail
  refine (trim_any s _).mono ?_
  rintro e w1 ⟨rfl, rfl⟩
  go_wp2_with fail
  refine (HP.out _).mono ?_
  rintro e w2 ⟨rfl, hb2⟩
  go_wp2
  go_ret2
  exact ⟨by rw [HR.out]; rfl, hb2⟩
set_option maxRecDepth 20000 in
set_option maxHeartbeats 400000 in
theorem number_no (s : ByteArray) (hs : s.size ≤ 281474976710656) (h : s.data.toList ≠ [48]) (hb : 0 < (bodyB s).size) (hc0 : 49 ≤ ((bodyB s)[0].toNat : Int)) (hc : ((bodyB s)[0].toNat : Int) ≤ 57) (hv : ∀ v, Lib.parseIntB 64 s.data.toList ≠ .ok v) (w : World) (hL : Laid w) :
    Calls Tryz.prog 309 #[.string s] w fun e w' => e = .returned (numT s.data.toList) ∧ Below w.heap.size w w' := by
  have he := zero_other h
  have HR : Hid _ := numT_none (numberOf_bad hv)
  have hz := full_str (bodyB s) hb
  have HP := parse_no s hs hv
  have HP' : Hid _ := HP
  have HL : Hid (Laid w) := hL
  clear HP
  have t1 : decide (((bodyB s)[0].toNat : Int) < 49) = false := by simp; omega
  have t2 : decide ((57 : Int) < ((bodyB s)[0].toNat : Int)) = false := by simp; omega
  clear h hc hc0 hv hs hL
  go_enter Tryz.func309, Tryz.ntmps309
  go_wp2_with fail
  refine (trim_any s _).mono ?_
  rintro e w1 ⟨rfl, rfl⟩
  go_wp2_with fail
  refine (HP'.out _ HL.out).mono ?_
  rintro e w2 ⟨n, t, p, rfl, hb2⟩
  go_wp2
  go_ret2
  exact ⟨by rw [HR.out]; rfl, hb2⟩
theorem number_any (s : ByteArray) (hs : s.size ≤ 281474976710656) (w : World) (hL : Laid w) :
    Calls Tryz.prog 309 #[.string s] w fun e w' => e = .returned (numT s.data.toList) ∧ Below w.heap.size w w' := by
  by_cases h : s.data.toList = [48]
  · exact number_zero s h w
  by_cases hb : (bodyB s).size = 0
  · exact number_nobody s h hb w
  have hb' : 0 < (bodyB s).size := by omega
  by_cases c1 : ((bodyB s)[0].toNat : Int) < 49
  · exact number_lo s h hb' c1 w
  by_cases c2 : 57 < ((bodyB s)[0].toNat : Int)
  · exact number_hi s h hb' c2 w
  by_cases hv : ∃ v, Lib.parseIntB 64 s.data.toList = .ok v
  · obtain ⟨v, hv⟩ := hv
    exact number_ok s hs h hb' (by omega) (by omega) v hv w
  · exact number_no s hs h hb' (by omega) (by omega) (fun v e => hv ⟨v, e⟩) w hL
end Go.Proofs.YtfkcpilkhdbpoaaGreatDoor.S6
namespace Go.Proofs.YtfkcpilkhdbpoaaGreatDoor.S6
open Go.RowKit Vi
set_option linter.unusedVariables false
def itoaB (n : Int) : ByteArray := ⟨(Lib.itoa n).toArray⟩
theorem itoa_any (n : Int) (h0 : -9223372036854775808 ≤ n) (h1 : n ≤ 9223372036854775807) (w : World) (hL : Laid w) :
    Calls Tryz.prog 368 #[.int .i64 n] w fun e w' => e = .returned (.string (itoaB n)) ∧ Below w.heap.size w w' := by
  refine (Tryz.strconv_Itoa n h0 h1 w hL.tab).mono ?_
  rintro e w' ⟨rfl, k, os, rfl⟩
  exact ⟨rfl, below_grow w k os⟩
set_option maxHeartbeats 400000 in
theorem digits_any (n : Int) (h0 : -9223372036854775808 ≤ n) (h1 : n ≤ 9223372036854775807) (w : World) (hL : Laid w) :
    Calls Tryz.prog 323 #[.int .i64 n] w fun e w' => e = .returned (.string (itoaB n)) ∧ Below w.heap.size w w' := by
  have HL : Hid (Laid w) := hL
  clear hL
  go_enter Tryz.func323, Tryz.ntmps323
  go_wp2_with fail
  refine (itoa_any n h0 h1 _ HL.out).mono ?_
  rintro e w1 ⟨rfl, hb1⟩
  go_wp2
  go_ret
  exact ⟨rfl, hb1⟩

end Go.Proofs.YtfkcpilkhdbpoaaGreatDoor.S6
