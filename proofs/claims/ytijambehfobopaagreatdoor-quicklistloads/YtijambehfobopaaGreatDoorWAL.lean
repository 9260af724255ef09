import Derived.Test.YtijambehfobopaaGreatDoorWAK
import Derived.Laws.AppendOwnNone
import Derived.Test.YtijambehfobopaaGreatDoorWAE
import Derived.Test.YtijambehfobopaaGreatDoorTie
import Derived.Test.YtijambehfobopaaGreatDoorCards
import Derived.ProofKit
import Derived.LaidMore
import Derived.OpenShut
import Derived.ShutString
import Derived.SizedLaws
import Derived.Stop.Joined
import Derived.Stop.LaidErr
import Derived.Lib.LaidTab
import Derived.SevenTiedAt
import Derived.SliceStrings
import Derived.Carry
import Derived.Test.YtijambehfobopaaGreatDoorRows
namespace Go.Proofs.YtijambehfobopaaGreatDoor
open Go.RowKit
set_option linter.unusedVariables false
theorem bytes_ext {a b:ByteArray} (h:a.data.toList=b.data.toList):a=b:=WideShapes.bytes_inj h
theorem SRow.cell {w:World} {P:Option Addr} {n c:Nat} {vs:List ByteArray} (h:SRow w (.slice P n c) vs) (j:Nat) (hj:j < vs.length):∃ g o,P=some ⟨g,o,none⟩∧w.cell? ⟨g,o + j,none⟩=some (.string vs[j]):=by
  rcases h with ⟨he,_⟩ | ⟨g,o,c',h1,h2⟩
  · rw [he] at hj; simp at hj
  · injection h1 with h1 _ _
    exact ⟨g,o,h1,h2 j hj⟩
set_option maxHeartbeats 1000000 in
set_option maxRecDepth 100000 in
theorem same_any (va vb:Value) (xs ys:List ByteArray) (ha:xs.length ≤ 70368744177664) (hb:ys.length ≤ 70368744177664) (w:World) (hA:SRow w va xs) (hB:SRow w vb ys) :
    Calls Tryz.prog 8 #[va,vb] w fun e w'=>(∃ b,e=.returned (.bool b)∧(b=true ↔ xs=ys))∧∃ k,w'=w.drewN k:=by
  obtain ⟨P,c,rfl⟩:=hA.form
  obtain ⟨P',c',rfl⟩:=hB.form
  have HA:Hid (SRow w (.slice P xs.length c) xs):=hA
  have HB:Hid (SRow w (.slice P' ys.length c') ys):=hB
  clear hA hB
  by_cases hl:xs.length=ys.length
  · have HL:Hid (xs.length=ys.length):=hl
    have hll:((xs.length:Int) == (ys.length:Int))=true:=by simp [hl]
    rw [← hl]
    rw [← hl] at HB
    clear hl hb hll
    go_enter Tryz.func8,Tryz.ntmps8
    go_wp2
    go_loopw [5] (fun ci wr=>(∃ k,wr=w.drewN k)∧∃ i:Nat,i ≤ xs.length∧ci=.int .i64 (i:Int)∧∀ j (h:j < xs.length) (h':j < ys.length),j < i → xs[j]=ys[j]) (fun ci _=>xs.length - (intOf ci).toNat)
    case atStart=>exact ⟨⟨0,rfl⟩,0,by omega,rfl,fun j _ _ h=>absurd h (by omega)⟩
    case round =>
      obtain ⟨⟨kk,hwr⟩,i,hi,rfl,hall⟩:=hrel
      have HWR:Hid (wr=w.drewN kk):=hwr
      have HALL:Hid _:=hall
      clear hall
      by_cases hlt:i < xs.length
      · obtain ⟨g,o,hP,hc1⟩:=(show SRow wr _ _ by rw [hwr]; exact HA.out).cell i hlt
        obtain ⟨g',o',hP',hc2⟩:=(show SRow wr _ _ by rw [hwr]; exact HB.out).cell i (by rw [← HL.out]; exact hlt)
        have hz0:(0:Int) ≤ (i:Int):=by omega
        have hz1:(i:Int) < (xs.length:Int):=by omega
        clear hwr
        subst hP; subst hP'
        obtain ⟨X,hX⟩:∃ X,xs[i]=X:=⟨_,rfl⟩
        obtain ⟨Y,hY⟩:∃ Y,ys[i]'(by rw [← HL.out]; exact hlt)=Y:=⟨_,rfl⟩
        rw [hX] at hc1
        rw [hY] at hc2
        have HX:Hid _:=hX
        have HY:Hid _:=hY
        clear hX hY
        by_cases hxy:X=Y
        · have hxt:(X.toList == Y.toList)=true:=str_same (by rw [hxy])
          have HXY:Hid _:=hxy
          clear hxy
          go_wp2
          go_quiet (fail)
          go_wp2
          go_roundw
          case rel =>
            refine ⟨⟨kk + nq,by rw [HWR.out,World.drewN_drewN]⟩,i + 1,hlt,rfl,fun j h h' hji=>?_⟩
            rcases Nat.lt_succ_iff_lt_or_eq.1 hji with h2 | rfl
            · exact HALL.out j h h' h2
            · exact HX.out.trans (HXY.out.trans HY.out.symm)
          case measure=>simp [intOf]; omega
        · have hxf:(X.toList == Y.toList)=false:=str_other (fun h=>hxy (bytes_ext h))
          have HNE:Hid (¬ xs=ys):=fun h=>hxy (by rw [← HX.out,← HY.out]; simp only [h])
          clear hxy
          go_wp2
          go_quiet (fail)
          go_wp2
          go_ret
          exact ⟨⟨false,rfl,by simpa using HNE.out⟩,kk + nq,by rw [HWR.out,World.drewN_drewN]⟩
      · have he:i=xs.length:=by omega
        have HEQ:Hid (xs=ys):=List.ext_getElem HL.out (fun j h1 h2=>HALL.out j h1 h2 (by omega))
        subst he
        clear hwr
        go_wp2
        go_ret
        exact ⟨⟨true,rfl,by simpa using HEQ.out⟩,kk,HWR.out⟩
  · have hlf:((xs.length:Int) == (ys.length:Int))=false:=by simp; omega
    have HNE:Hid (¬ xs=ys):=fun h=>hl (by rw [h])
    have hne:¬ (xs.length:Int)=(ys.length:Int):=by omega
    clear hl
    obtain ⟨na,hna⟩:∃ na:Int,(xs.length:Int)=na:=⟨_,rfl⟩
    go_enter Tryz.func8,Tryz.ntmps8
    go_wp2
    go_ret
    exact ⟨⟨false,rfl,by simpa using HNE.out⟩,0,rfl⟩
end Go.Proofs.YtijambehfobopaaGreatDoor
namespace Go.Proofs.YtijambehfobopaaGreatDoor
open Go.RowKit
set_option linter.unusedVariables false
theorem info9:(Tryz.prog.info? 9).map (fun i=>(i.zero,i.size,i.bytes))=some (some (.string ⟨#[]⟩),1,16):=by kernel_rfl
theorem nil_cap {c:Nat} (h:Value.slice none 0 0=.slice none 0 c):c=0:=by injection h with _ _ h; exact h.symm
theorem srow_of_own {w:World} {base n:Nat} {v:Value} {vs:List ByteArray} (h:w.ownsRow base 9 1 v n (vs.map Value.string)) (hn:n=vs.length):SRow w v vs:=by
  obtain ⟨_,⟨rfl,h0⟩ | ⟨g,cap,cur,rfl,hb,hg,h1,h2,h3,h4⟩⟩:=h
  · exact Or.inl ⟨List.eq_nil_of_length_eq_zero (by omega),none,0,rfl⟩
  · subst hn
    refine Or.inr ⟨g,0,cap,rfl,fun j hj=>?_⟩
    rw [cell_of_row _ _ _ _ _ _ hg,← Array.getElem?_toList,Nat.zero_add]
    have h5:(cur.toList.take (vs.length * 1))[j]?=(vs.map Value.string)[j]?:=by rw [h4]
    rw [List.getElem?_take_of_lt (by omega),List.getElem?_map,List.getElem?_eq_getElem hj] at h5
    exact h5
theorem SRow.forms {w:World} {v:Value} {vs:List ByteArray} (h:SRow w v vs) (hnil:∀ c,v=.slice none 0 c → c=0) :
    (v=.slice none 0 0∧vs=[]) ∨ ∃ ad c,v=.slice (some ad) vs.length c∧∀ j u,(vs.map Value.string)[j]?=some u → w.cell? (ad.add j)=some u:=by
  rcases h with ⟨rfl,p,c,rfl⟩ | ⟨g,o,c,rfl,hc⟩
  · cases p with
    | none=>left; rw [hnil c rfl]; exact ⟨rfl,rfl⟩
    | some ad=>right; exact ⟨ad,c,rfl,fun j u hu=>by simp at hu⟩
  · right
    refine ⟨⟨g,o,none⟩,c,rfl,fun j u hu=>?_⟩
    rw [List.getElem?_map] at hu
    by_cases hj:j < vs.length
    · rw [List.getElem?_eq_getElem hj] at hu
      have:=hc j hj
      simp at hu
      subst hu
      rw [Lib.add_plain]; exact this
    · rw [List.getElem?_eq_none (by omega)] at hu
      cases hu
end Go.Proofs.YtijambehfobopaaGreatDoor
namespace Go.Proofs.YtijambehfobopaaGreatDoor
open Go.RowKit Vi
set_option linter.unusedVariables false

def laidL:List (String × DataW Unit):=[("math/bits.deBruijn32tab",Rows.laid_math_bits_deBruijn32tab),("math/bits.deBruijn64tab",Rows.laid_math_bits_deBruijn64tab),("internal/strconv.uint64pow10",Rows.laid_internal_strconv_uint64pow10),("strconv.ErrRange",Rows.laid_strconv_ErrRange),("strconv.ErrSyntax",Rows.laid_strconv_ErrSyntax),("cistern/listpack.widths",Rows.laid_cistern_listpack_widths)]
theorem own:ownKnob Tryz.prog.godebug=none:=by kernel_rfl
theorem gPow:Tryz.prog.globalNamed "internal/strconv.uint64pow10"=some 4:=by kernel_rfl
theorem gSyn:Tryz.prog.globalNamed "strconv.ErrSyntax"=some 2:=by kernel_rfl
theorem gRng:Tryz.prog.globalNamed "strconv.ErrRange"=some 3:=by kernel_rfl
theorem gWid:Tryz.prog.globalNamed "cistern/listpack.widths"=some 0:=by kernel_rfl
theorem tPow:(Tryz.prog.globals[4]?).map (·.type)=some 230:=by kernel_rfl
theorem tSyn:(Tryz.prog.globals[2]?).map (·.type)=some 183:=by kernel_rfl
theorem tRng:(Tryz.prog.globals[3]?).map (·.type)=some 183:=by kernel_rfl
theorem tWid:(Tryz.prog.globals[0]?).map (·.type)=some 196:=by kernel_rfl
theorem cellsE:Tryz.prog.cellsOf 234=1:=by kernel_rfl
theorem cells9:Tryz.prog.cellsOf 9=1:=by kernel_rfl
theorem cells3:Tryz.prog.cellsOf 3=1:=by kernel_rfl
theorem cellsU:Tryz.prog.cellsOf 204=1:=by kernel_rfl
theorem cellsT:Tryz.prog.cellsOf 230=20:=by kernel_rfl
theorem cellsW:Tryz.prog.cellsOf 196=4:=by kernel_rfl
theorem star: "*" ++ "errors.errorString"= "*errors.errorString":=by decide
theorem rowE (u:TypeId) (h:Tryz.prog.typeName? 3 u=some "*errors.errorString"):u=232:=
  typeName_ptr_named (nm:= "errors.errorString") (by rw [star]; kernel_rfl) (by kernel_rfl) (by decide) u (by rw [star]; exact h)
theorem tabD:(Rows.laid_internal_strconv_uint64pow10:DataW Unit)=Lib.tabData .u64 Lib.pow10Tab:=by rfl
theorem tabW:(Rows.laid_cistern_listpack_widths:DataW Unit)=Lib.tabData .i64 [2,3,4,8]:=by rfl

theorem wid_of {W:World} (h:Lib.TabIs Tryz.prog W "cistern/listpack.widths" .i64 [2,3,4,8]):Wid W:=by
  unfold Lib.TabIs World.var? at h
  rw [gWid] at h
  simp only [Option.bind_some] at h
  split at h
  · rename_i cs t fr hh
    injection h with h
    subst h
    constructor <;> (rw [cell_of_row _ _ _ _ _ _ hh]; rfl)
  · cases h

theorem of_laid {W:World} (h:laidMetH Tryz.prog laidL W):Lay W:=by
  rw [MakeChecks.laidMetH_plain _ _ _ (by kernel_rfl)] at h
  have h2:=laidMet.tail (laidMet.tail h)
  have h3:=laidMet.tail h2
  have h4:=laidMet.tail h3
  have h5:=laidMet.tail h4
  rw [tabD] at h2
  rw [tabW] at h5
  refine ⟨⟨Lib.tabIs_of_head gPow tPow Tryz.underlying230 Tryz.underlying204 cellsU cellsT h2,?_,?_⟩,wid_of (Lib.tabIs_of_head gWid tWid Tryz.underlying196 Tryz.underlying3 cells3 cellsW h5)⟩
  · obtain ⟨a0,s0,hv0,-,-,-⟩:=laid_sentinel h4 gSyn tSyn Tryz.underlying183 rowE Tryz.underlying232 Tryz.underlying234 rfl rfl Tryz.underlying9 cellsE cells9
    exact ⟨_,_,hv0⟩
  · obtain ⟨a0,s0,hv0,-,-,-⟩:=laid_sentinel h3 gRng tRng Tryz.underlying183 rowE Tryz.underlying232 Tryz.underlying234 rfl rfl Tryz.underlying9 cellsE cells9
    exact ⟨_,_,hv0⟩
end Go.Proofs.YtijambehfobopaaGreatDoor
namespace Go.Proofs.YtijambehfobopaaGreatDoor
open Go.ChangeShapes Go.WideShapes Go.RowKit
set_option linter.unusedVariables false
theorem laidOut:laidOutB Tryz.prog=true:=by kernel_rfl
end Go.Proofs.YtijambehfobopaaGreatDoor
namespace Go.Proofs.YtijambehfobopaaGreatDoor
open Go.ChangeShapes Go.WideShapes Go.RowKit
set_option linter.unusedVariables false
theorem bulk_small {H:Type} {l:List (DataW H)} (hk:Rows.uptoSmall H l=true):Rows.uptoBulkAll l ≤ 1048576:=of_decide_eq_true hk
theorem bulk_one {H:Type} (d:DataW H):1 ≤ Rows.uptoBulk d:=by
  cases d with
  | lit l=>cases l <;> simp [Rows.uptoBulk]
  | _=>simp [Rows.uptoBulk]
theorem bulk_len {H:Type} (l:List (DataW H)):l.length ≤ Rows.uptoBulkAll l:=by
  induction l with
  | nil=>simp [Rows.uptoBulkAll]
  | cons x r ih=>have:=bulk_one x; simp only [Rows.uptoBulkAll,List.length_cons]; omega
theorem bulk_strs {H:Type} (l:List ByteArray):Rows.uptoBulkAll (strs (H:=H) l)=(l.map (fun x=>x.size + 1)).sum:=by
  induction l with
  | nil=>rfl
  | cons x l ih =>
    have e:strs (H:=H) (x :: l)=.lit (.string x.data.toList) :: strs l:=rfl
    rw [e]
    simp only [Rows.uptoBulkAll,Rows.uptoBulk,list_len,ih,List.map_cons,List.sum_cons]
theorem openU_rowS {H:Type} {enc:TypeId × Value → H} {W:World} {fuel:Nat} {v:Value} {y:DataW H × List MemPlace}
    (h:DataW.trod enc Tryz.prog W 0 (fun _=>true) true fuel 22 [v]=some y) (hb:Rows.uptoBulk y.1 ≤ 1048576) :
    ∃ vs:List ByteArray,SRow W v vs∧(∀ c,v=.slice none 0 c → c=0)∧vs.length ≤ 1048576∧(vs.map (fun x=>x.size + 1)).sum ≤ 1048576:=by
  rcases open_strings Tryz.underlying22 Tryz.underlying9 cells9 h with ⟨hcs,hx⟩ | ⟨a,len,cap,ss,hcs,_,hl,hm,hz,hx,hcell,hws⟩
  · have e:v=.slice none 0 0:=by simpa using hcs
    subst e
    exact ⟨[],Or.inl ⟨rfl,none,0,rfl⟩,fun c h=>nil_cap h,by simp,by simp⟩
  · have e:v=.slice (some a) len cap:=by simpa using hcs
    subst e
    simp only [if_true] at hz
    have hlen:(ss.take len).length=len:=by rw [List.length_take]; omega
    rw [hx] at hb
    simp only [Rows.uptoBulk] at hb
    have h1:=bulk_len (H:=H) (strs (ss.take len))
    have h2:(strs (H:=H) (ss.take len)).length=len:=by unfold strs; rw [List.length_map,hlen]
    refine ⟨ss.take len,?_,(fun c h=>by cases h),by rw [hlen]; omega,by rw [← bulk_strs (H:=H)]; omega⟩
    · by_cases h0:len=0
      · subst h0
        exact Or.inl ⟨by simp,some a,cap,rfl⟩
      · obtain ⟨b,off,spot⟩:=a
        have hspot:spot=none:=by simpa [Addr.add] using World.cell?_spot (hcell 0 (by omega))
        subst hspot
        refine Or.inr ⟨b,off,cap,by rw [hlen],fun j hj=>?_⟩
        have:=hcell j (by omega)
        rw [Lib.add_plain] at this
        rw [this,List.getElem_take,List.getD_eq_getElem?_getD,List.getElem?_eq_getElem (by omega)]
        rfl
end Go.Proofs.YtijambehfobopaaGreatDoor
