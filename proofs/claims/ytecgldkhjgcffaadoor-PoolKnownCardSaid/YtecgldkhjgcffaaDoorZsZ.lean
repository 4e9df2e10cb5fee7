/- Several texts of this proof, one behind the other. -/
import Derived.Test.YtecgldkhjgcffaaDoorZsX
import Derived.Test.YtecgldkhjgcffaaDoorZsL
import Derived.Test.YtecgldkhjgcffaaDoorZsA
/- PoolBack, walked. -/
namespace Go.Proofs.YtecgldkhjgcffaaDoor
open Go.ChangeShapes Go.WideShapes Go.ChangeAt Go.RowKit
open Go.ChangeMaps (open_string shut_string)
set_option linter.unusedVariables false
set_option maxRecDepth 100000 in
set_option maxHeartbeats 8000000 in
theorem poolBack_walk (w : World) (hT : Tabs w) (v : Value) (l : List Cst) (h : RowC w v l) (hl : tot l ≤ 1048576) (vb : Value) (q : List Int) (hq : Row w .u8 vb q) (hql : q.length ≤ 1048576) : Calls Tryd.prog 5 #[v, vb] w (RetB w true) := by
  have HX := Lib.hid (tot_texts hl)
  have HT := Lib.hid ((tot_texts hl).told h.all)
  have hlen : (bytesZ l).length ≤ 10 + 41 * tot l := bytesZ_len l
  have HL := Lib.hid (show (bytesZ l).length ≤ 50000000 by omega)
  clear hlen
  go_enter Tryd.func5, Tryd.ntmps5
  go_wp2_with fail
  refine (works_any _ hT).mono ?_
  rintro e w1 ⟨rfl, x1⟩
  go_wp2_with fail
  refine (Bytes_any v l _ (by exact h.ext x1) (hT.ext x1) HX.out (fun _ => by have := HL.out; omega)).mono ?_
  rintro e w2 ⟨u2, rfl, ⟨hc, c, rfl, hco⟩ | ⟨hn, rfl⟩, x2'⟩
  · have x2 := x1.trans x2'
    obtain ⟨hm, he⟩ := parse_bytes hc HT.out q
    have HM := Lib.hid hm
    have HE := Lib.hid he
    have HC := Lib.hid hc
    clear hm he hc
    have hn1 := HL.out
    go_wp2_with fail
    refine (Check_any v l _ (by exact h.ext x2) (hT.ext x2) HX.out).mono ?_
    rw [HC.out]
    rintro e w3 ⟨rfl, x3'⟩
    have x3 := x2.trans x3'
    go_wp2_with fail
    refine (copyBytes_any c (bytesZ l) _ (by exact hco.row.ext x3') (by omega)).mono ?_
    rintro e w4 ⟨v4, rfl, ho4, x4⟩
    go_wp2_with (at_builtin; go_loud (refine wpList_app _ rfl _ _ w3.heap.size 22 5 _ 1 .u8 rfl Tryd.underlying22 info8 rfl (by omega) v4 (bytesZ l) rfl (ho4.ext (Ext.refl _)) vb q rfl (hq.ext (x3.trans x4)) (by omega) (by have := x4.size; omega) ?_); intro v5 w5 ho5 hg5 hb5)
    have y5 : Ext w3 w5 := x4.grown hg5 ho4.low
    have x5 := x3.trans y5
    go_wp2_with fail
    refine (Parse_any v5 (bytesZ l ++ q) _ (by exact ho5.row) (hT.ext x5) (by rw [List.length_append]; omega)).mono ?_
    rintro e w6 ⟨u6, rfl, ⟨-, m, y, rfl, hm6, hy6⟩ | ⟨hn, _⟩, x6'⟩
    rotate_left
    · exact absurd HE.out hn
    rw [HM.out] at hm6 hy6
    simp only at hm6 hy6
    have x6 := x5.trans x6'
    go_wp2_with fail
    refine (refSame_yes v m l _ (by exact h.ext x6) (by exact hm6.row)).mono ?_
    rintro e w7 ⟨rfl, q7⟩
    have x7 := x6.trans q7
    go_wp2_with fail
    refine (eqBytes_yes y vb q _ (by exact hy6.row.ext (q7)) (by exact hq.ext x7)).mono ?_
    rintro e w8 ⟨rfl, q8⟩
    go_wp2
    go_ret
    exact ⟨rfl, x7.trans q8⟩
  · have x2 := x1.trans x2'
    have hE : (checkC l != 0) = true := by simpa using hn
    have c3 := fun W h h2 => Check_any v l W h h2 HX.out
    obtain ⟨c, hc⟩ : ∃ c, checkC l = c := ⟨_, rfl⟩
    rw [hc] at hE c3 ⊢
    have C3 := Lib.hid c3
    clear hn hc c3
    go_wp2_with fail
    refine (C3.out _ (by exact h.ext x2) (hT.ext x2)).mono ?_
    rintro e w3 ⟨rfl, x3'⟩
    go_wp2
    go_ret
    exact ⟨rfl, x2.trans x3'⟩

end Go.Proofs.YtecgldkhjgcffaaDoor
