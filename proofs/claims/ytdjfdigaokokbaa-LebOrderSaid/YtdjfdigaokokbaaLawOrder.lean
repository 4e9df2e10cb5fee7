/- LebOrder: of two numbers from 0 on, in as many bytes, the bytes stand as the numbers do, of any two numbers and size; no conditions. -/
import Derived.Test.YtdjfdigaokokbaaRows
import Derived.ProofKit
import Derived.OpenShut
import Derived.ShutString
import Derived.ChangeOld
import Derived.SizedLaws
import Derived.Test.YtdjfdigaokokbaaFrame
import Derived.Test.YtdjfdigaokokbaaLebX
import Derived.Test.YtdjfdigaokokbaaLebMath
import Derived.Test.YtdjfdigaokokbaaLebC
import Derived.Deep.RegionWith
namespace Go.Proofs.Ytdjfdigaokokbaa
open Go.ChangeShapes Go.WideShapes Go.ChangeAt Go.RowKit
open Go.ChangeMaps (open_string shut_string)
set_option linter.unusedVariables false

set_option maxRecDepth 1000000 in
set_option maxHeartbeats 8000000 in
theorem lebOrder_walk (W : World) (n : Int) (hn : -9223372036854775808 ≤ n ∧ n ≤ 9223372036854775807) (m : Int) (hm : -9223372036854775808 ≤ m ∧ m ≤ 9223372036854775807) (size : Int) (hs : -9223372036854775808 ≤ size ∧ size ≤ 9223372036854775807) :
    Calls Try.prog 9 #[.int .i64 n, .int .i64 m, .int .i64 size] W (RetB W true) := by
  have hj : bring size 7 = 0 ∨ bring size 7 = 1 ∨ bring size 7 = 2 ∨ bring size 7 = 3 ∨ bring size 7 = 4 ∨ bring size 7 = 5 ∨ bring size 7 = 6 := by
    rw [bring_pos size (by omega)]
    omega
  rcases hj with hj | hj | hj | hj | hj | hj | hj
  · have HJ := Lib.hid hj
    clear hj
    have ha : 0 ≤ n % 256 ∧ n % 256 < 256 := by omega
    obtain ⟨a, ae⟩ : ∃ a, a = n % 256 := ⟨_, rfl⟩
    rw [← ae] at ha
    have Ha : Hid (bring n 256 = a) := by rw [Hid, bring_pos n (by omega), ae]
    clear ae
    have HSa : Hid (bS a 1 = (bg 1 a, 0)) := by
      have e : ftB a 1 = true := by simp [ftB]; omega
      rw [Hid, bS, if_neg (by omega), if_pos e]
      rfl
    have hb : 0 ≤ m % 256 ∧ m % 256 < 256 := by omega
    obtain ⟨b, be⟩ : ∃ b, b = m % 256 := ⟨_, rfl⟩
    rw [← be] at hb
    have Hb : Hid (bring m 256 = b) := by rw [Hid, bring_pos m (by omega), be]
    clear be
    have HSb : Hid (bS b 1 = (bg 1 b, 0)) := by
      have e : ftB b 1 = true := by simp [ftB]; omega
      rw [Hid, bS, if_neg (by omega), if_pos e]
      rfl
    obtain ⟨o1, o2⟩ := cmpI_order 1 a b ha.1 ha.2 hb.1 hb.2
    have hcr := cmpI_range (bg 1 a) (bg 1 b)
    generalize hcc : cmpI (bg 1 a) (bg 1 b) = cc at *
    have HC := Lib.hid hcc
    clear hcc
    have o1t : (decide (cc < 0) == decide (a < b)) = true := by rw [o1]; simp
    have o2t : ((cc == 0) == (a == b)) = true := by rw [o2]; simp
    clear o1 o2
    go_enter Try.func9, Try.ntmps9
    have x0 := Ext.refl W
    go_wp2_with fail
    refine (works_any _).mono ?_
    rintro e w1 ⟨rfl, he1⟩
    have t0 := x0.trans he1
    go_wp2_with fail
    refine (bring_any size 7 _ hs.1 hs.2 (by omega) (by omega)).mono ?_
    rw [HJ.out]
    rintro e wsame ⟨rfl, rfl⟩
    go_wp2_with fail
    go_quiet (first
      | (go_at_call_of 30 (Value.int IntKind.i64 n); exact Calls.quiet_of_same (bring_same n _ _ hn.1 hn.2 (by omega) (by omega) a Ha))
      | (go_at_call_of 30 (Value.int IntKind.i64 m); exact Calls.quiet_of_same (bring_same m _ _ hm.1 hm.2 (by omega) (by omega) b Hb)))
    have t1 := t0.drewN nq
    go_wp2_with fail
    refine (Big_any a 1 _ (by omega) (by omega) (by omega) (by omega)).mono ?_
    rw [HSa.out]
    rintro e w2 ⟨v2, rfl, ⟨b2, rfl, ho2⟩, he2⟩
    have t2 := t1.trans he2
    have y2 := Ext.refl w2
    go_wp2_with fail
    refine (Big_any b 1 _ (by omega) (by omega) (by omega) (by omega)).mono ?_
    rw [HSb.out]
    rintro e w3 ⟨v3, rfl, ⟨b3, rfl, ho3⟩, he3⟩
    have t3 := t2.trans he3
    have t4 := y2.trans he3
    have y3 := Ext.refl w3
    go_wp2_with fail
    refine (compare_any _ _ (bg 1 a) (bg 1 b) _ (by exact ho2.row.ext t4) (by exact ho3.row.ext y3)).mono ?_
    rw [HC.out]
    rintro e wsame ⟨rfl, rfl⟩
    go_wp2_with fail
    go_ret
    exact ⟨rfl, t3⟩
  · have HJ := Lib.hid hj
    clear hj
    have ha : 0 ≤ n % 65536 ∧ n % 65536 < 65536 := by omega
    obtain ⟨a, ae⟩ : ∃ a, a = n % 65536 := ⟨_, rfl⟩
    rw [← ae] at ha
    have Ha : Hid (bring n 65536 = a) := by rw [Hid, bring_pos n (by omega), ae]
    clear ae
    have HSa : Hid (bS a 2 = (bg 2 a, 0)) := by
      have e : ftB a 2 = true := by simp [ftB]; omega
      rw [Hid, bS, if_neg (by omega), if_pos e]
      rfl
    have hb : 0 ≤ m % 65536 ∧ m % 65536 < 65536 := by omega
    obtain ⟨b, be⟩ : ∃ b, b = m % 65536 := ⟨_, rfl⟩
    rw [← be] at hb
    have Hb : Hid (bring m 65536 = b) := by rw [Hid, bring_pos m (by omega), be]
    clear be
    have HSb : Hid (bS b 2 = (bg 2 b, 0)) := by
      have e : ftB b 2 = true := by simp [ftB]; omega
      rw [Hid, bS, if_neg (by omega), if_pos e]
      rfl
    obtain ⟨o1, o2⟩ := cmpI_order 2 a b ha.1 ha.2 hb.1 hb.2
    have hcr := cmpI_range (bg 2 a) (bg 2 b)
    generalize hcc : cmpI (bg 2 a) (bg 2 b) = cc at *
    have HC := Lib.hid hcc
    clear hcc
    have o1t : (decide (cc < 0) == decide (a < b)) = true := by rw [o1]; simp
    have o2t : ((cc == 0) == (a == b)) = true := by rw [o2]; simp
    clear o1 o2
    go_enter Try.func9, Try.ntmps9
    have x0 := Ext.refl W
    go_wp2_with fail
    refine (works_any _).mono ?_
    rintro e w1 ⟨rfl, he1⟩
    have t0 := x0.trans he1
    go_wp2_with fail
    refine (bring_any size 7 _ hs.1 hs.2 (by omega) (by omega)).mono ?_
    rw [HJ.out]
    rintro e wsame ⟨rfl, rfl⟩
    go_wp2_with fail
    go_quiet (first
      | (go_at_call_of 30 (Value.int IntKind.i64 n); exact Calls.quiet_of_same (bring_same n _ _ hn.1 hn.2 (by omega) (by omega) a Ha))
      | (go_at_call_of 30 (Value.int IntKind.i64 m); exact Calls.quiet_of_same (bring_same m _ _ hm.1 hm.2 (by omega) (by omega) b Hb)))
    have t1 := t0.drewN nq
    go_wp2_with fail
    refine (Big_any a 2 _ (by omega) (by omega) (by omega) (by omega)).mono ?_
    rw [HSa.out]
    rintro e w2 ⟨v2, rfl, ⟨b2, rfl, ho2⟩, he2⟩
    have t2 := t1.trans he2
    have y2 := Ext.refl w2
    go_wp2_with fail
    refine (Big_any b 2 _ (by omega) (by omega) (by omega) (by omega)).mono ?_
    rw [HSb.out]
    rintro e w3 ⟨v3, rfl, ⟨b3, rfl, ho3⟩, he3⟩
    have t3 := t2.trans he3
    have t4 := y2.trans he3
    have y3 := Ext.refl w3
    go_wp2_with fail
    refine (compare_any _ _ (bg 2 a) (bg 2 b) _ (by exact ho2.row.ext t4) (by exact ho3.row.ext y3)).mono ?_
    rw [HC.out]
    rintro e wsame ⟨rfl, rfl⟩
    go_wp2_with fail
    go_ret
    exact ⟨rfl, t3⟩
  · have HJ := Lib.hid hj
    clear hj
    have ha : 0 ≤ n % 16777216 ∧ n % 16777216 < 16777216 := by omega
    obtain ⟨a, ae⟩ : ∃ a, a = n % 16777216 := ⟨_, rfl⟩
    rw [← ae] at ha
    have Ha : Hid (bring n 16777216 = a) := by rw [Hid, bring_pos n (by omega), ae]
    clear ae
    have HSa : Hid (bS a 3 = (bg 3 a, 0)) := by
      have e : ftB a 3 = true := by simp [ftB]; omega
      rw [Hid, bS, if_neg (by omega), if_pos e]
      rfl
    have hb : 0 ≤ m % 16777216 ∧ m % 16777216 < 16777216 := by omega
    obtain ⟨b, be⟩ : ∃ b, b = m % 16777216 := ⟨_, rfl⟩
    rw [← be] at hb
    have Hb : Hid (bring m 16777216 = b) := by rw [Hid, bring_pos m (by omega), be]
    clear be
    have HSb : Hid (bS b 3 = (bg 3 b, 0)) := by
      have e : ftB b 3 = true := by simp [ftB]; omega
      rw [Hid, bS, if_neg (by omega), if_pos e]
      rfl
    obtain ⟨o1, o2⟩ := cmpI_order 3 a b ha.1 ha.2 hb.1 hb.2
    have hcr := cmpI_range (bg 3 a) (bg 3 b)
    generalize hcc : cmpI (bg 3 a) (bg 3 b) = cc at *
    have HC := Lib.hid hcc
    clear hcc
    have o1t : (decide (cc < 0) == decide (a < b)) = true := by rw [o1]; simp
    have o2t : ((cc == 0) == (a == b)) = true := by rw [o2]; simp
    clear o1 o2
    go_enter Try.func9, Try.ntmps9
    have x0 := Ext.refl W
    go_wp2_with fail
    refine (works_any _).mono ?_
    rintro e w1 ⟨rfl, he1⟩
    have t0 := x0.trans he1
    go_wp2_with fail
    refine (bring_any size 7 _ hs.1 hs.2 (by omega) (by omega)).mono ?_
    rw [HJ.out]
    rintro e wsame ⟨rfl, rfl⟩
    go_wp2_with fail
    go_quiet (first
      | (go_at_call_of 30 (Value.int IntKind.i64 n); exact Calls.quiet_of_same (bring_same n _ _ hn.1 hn.2 (by omega) (by omega) a Ha))
      | (go_at_call_of 30 (Value.int IntKind.i64 m); exact Calls.quiet_of_same (bring_same m _ _ hm.1 hm.2 (by omega) (by omega) b Hb)))
    have t1 := t0.drewN nq
    go_wp2_with fail
    refine (Big_any a 3 _ (by omega) (by omega) (by omega) (by omega)).mono ?_
    rw [HSa.out]
    rintro e w2 ⟨v2, rfl, ⟨b2, rfl, ho2⟩, he2⟩
    have t2 := t1.trans he2
    have y2 := Ext.refl w2
    go_wp2_with fail
    refine (Big_any b 3 _ (by omega) (by omega) (by omega) (by omega)).mono ?_
    rw [HSb.out]
    rintro e w3 ⟨v3, rfl, ⟨b3, rfl, ho3⟩, he3⟩
    have t3 := t2.trans he3
    have t4 := y2.trans he3
    have y3 := Ext.refl w3
    go_wp2_with fail
    refine (compare_any _ _ (bg 3 a) (bg 3 b) _ (by exact ho2.row.ext t4) (by exact ho3.row.ext y3)).mono ?_
    rw [HC.out]
    rintro e wsame ⟨rfl, rfl⟩
    go_wp2_with fail
    go_ret
    exact ⟨rfl, t3⟩
  · have HJ := Lib.hid hj
    clear hj
    have ha : 0 ≤ n % 4294967296 ∧ n % 4294967296 < 4294967296 := by omega
    obtain ⟨a, ae⟩ : ∃ a, a = n % 4294967296 := ⟨_, rfl⟩
    rw [← ae] at ha
    have Ha : Hid (bring n 4294967296 = a) := by rw [Hid, bring_pos n (by omega), ae]
    clear ae
    have HSa : Hid (bS a 4 = (bg 4 a, 0)) := by
      have e : ftB a 4 = true := by simp [ftB]; omega
      rw [Hid, bS, if_neg (by omega), if_pos e]
      rfl
    have hb : 0 ≤ m % 4294967296 ∧ m % 4294967296 < 4294967296 := by omega
    obtain ⟨b, be⟩ : ∃ b, b = m % 4294967296 := ⟨_, rfl⟩
    rw [← be] at hb
    have Hb : Hid (bring m 4294967296 = b) := by rw [Hid, bring_pos m (by omega), be]
    clear be
    have HSb : Hid (bS b 4 = (bg 4 b, 0)) := by
      have e : ftB b 4 = true := by simp [ftB]; omega
      rw [Hid, bS, if_neg (by omega), if_pos e]
      rfl
    obtain ⟨o1, o2⟩ := cmpI_order 4 a b ha.1 ha.2 hb.1 hb.2
    have hcr := cmpI_range (bg 4 a) (bg 4 b)
    generalize hcc : cmpI (bg 4 a) (bg 4 b) = cc at *
    have HC := Lib.hid hcc
    clear hcc
    have o1t : (decide (cc < 0) == decide (a < b)) = true := by rw [o1]; simp
    have o2t : ((cc == 0) == (a == b)) = true := by rw [o2]; simp
    clear o1 o2
    go_enter Try.func9, Try.ntmps9
    have x0 := Ext.refl W
    go_wp2_with fail
    refine (works_any _).mono ?_
    rintro e w1 ⟨rfl, he1⟩
    have t0 := x0.trans he1
    go_wp2_with fail
    refine (bring_any size 7 _ hs.1 hs.2 (by omega) (by omega)).mono ?_
    rw [HJ.out]
    rintro e wsame ⟨rfl, rfl⟩
    go_wp2_with fail
    go_quiet (first
      | (go_at_call_of 30 (Value.int IntKind.i64 n); exact Calls.quiet_of_same (bring_same n _ _ hn.1 hn.2 (by omega) (by omega) a Ha))
      | (go_at_call_of 30 (Value.int IntKind.i64 m); exact Calls.quiet_of_same (bring_same m _ _ hm.1 hm.2 (by omega) (by omega) b Hb)))
    have t1 := t0.drewN nq
    go_wp2_with fail
    refine (Big_any a 4 _ (by omega) (by omega) (by omega) (by omega)).mono ?_
    rw [HSa.out]
    rintro e w2 ⟨v2, rfl, ⟨b2, rfl, ho2⟩, he2⟩
    have t2 := t1.trans he2
    have y2 := Ext.refl w2
    go_wp2_with fail
    refine (Big_any b 4 _ (by omega) (by omega) (by omega) (by omega)).mono ?_
    rw [HSb.out]
    rintro e w3 ⟨v3, rfl, ⟨b3, rfl, ho3⟩, he3⟩
    have t3 := t2.trans he3
    have t4 := y2.trans he3
    have y3 := Ext.refl w3
    go_wp2_with fail
    refine (compare_any _ _ (bg 4 a) (bg 4 b) _ (by exact ho2.row.ext t4) (by exact ho3.row.ext y3)).mono ?_
    rw [HC.out]
    rintro e wsame ⟨rfl, rfl⟩
    go_wp2_with fail
    go_ret
    exact ⟨rfl, t3⟩
  · have HJ := Lib.hid hj
    clear hj
    have ha : 0 ≤ n % 1099511627776 ∧ n % 1099511627776 < 1099511627776 := by omega
    obtain ⟨a, ae⟩ : ∃ a, a = n % 1099511627776 := ⟨_, rfl⟩
    rw [← ae] at ha
    have Ha : Hid (bring n 1099511627776 = a) := by rw [Hid, bring_pos n (by omega), ae]
    clear ae
    have HSa : Hid (bS a 5 = (bg 5 a, 0)) := by
      have e : ftB a 5 = true := by simp [ftB]; omega
      rw [Hid, bS, if_neg (by omega), if_pos e]
      rfl
    have hb : 0 ≤ m % 1099511627776 ∧ m % 1099511627776 < 1099511627776 := by omega
    obtain ⟨b, be⟩ : ∃ b, b = m % 1099511627776 := ⟨_, rfl⟩
    rw [← be] at hb
    have Hb : Hid (bring m 1099511627776 = b) := by rw [Hid, bring_pos m (by omega), be]
    clear be
    have HSb : Hid (bS b 5 = (bg 5 b, 0)) := by
      have e : ftB b 5 = true := by simp [ftB]; omega
      rw [Hid, bS, if_neg (by omega), if_pos e]
      rfl
    obtain ⟨o1, o2⟩ := cmpI_order 5 a b ha.1 ha.2 hb.1 hb.2
    have hcr := cmpI_range (bg 5 a) (bg 5 b)
    generalize hcc : cmpI (bg 5 a) (bg 5 b) = cc at *
    have HC := Lib.hid hcc
    clear hcc
    have o1t : (decide (cc < 0) == decide (a < b)) = true := by rw [o1]; simp
    have o2t : ((cc == 0) == (a == b)) = true := by rw [o2]; simp
    clear o1 o2
    go_enter Try.func9, Try.ntmps9
    have x0 := Ext.refl W
    go_wp2_with fail
    refine (works_any _).mono ?_
    rintro e w1 ⟨rfl, he1⟩
    have t0 := x0.trans he1
    go_wp2_with fail
    refine (bring_any size 7 _ hs.1 hs.2 (by omega) (by omega)).mono ?_
    rw [HJ.out]
    rintro e wsame ⟨rfl, rfl⟩
    go_wp2_with fail
    go_quiet (first
      | (go_at_call_of 30 (Value.int IntKind.i64 n); exact Calls.quiet_of_same (bring_same n _ _ hn.1 hn.2 (by omega) (by omega) a Ha))
      | (go_at_call_of 30 (Value.int IntKind.i64 m); exact Calls.quiet_of_same (bring_same m _ _ hm.1 hm.2 (by omega) (by omega) b Hb)))
    have t1 := t0.drewN nq
    go_wp2_with fail
    refine (Big_any a 5 _ (by omega) (by omega) (by omega) (by omega)).mono ?_
    rw [HSa.out]
    rintro e w2 ⟨v2, rfl, ⟨b2, rfl, ho2⟩, he2⟩
    have t2 := t1.trans he2
    have y2 := Ext.refl w2
    go_wp2_with fail
    refine (Big_any b 5 _ (by omega) (by omega) (by omega) (by omega)).mono ?_
    rw [HSb.out]
    rintro e w3 ⟨v3, rfl, ⟨b3, rfl, ho3⟩, he3⟩
    have t3 := t2.trans he3
    have t4 := y2.trans he3
    have y3 := Ext.refl w3
    go_wp2_with fail
    refine (compare_any _ _ (bg 5 a) (bg 5 b) _ (by exact ho2.row.ext t4) (by exact ho3.row.ext y3)).mono ?_
    rw [HC.out]
    rintro e wsame ⟨rfl, rfl⟩
    go_wp2_with fail
    go_ret
    exact ⟨rfl, t3⟩
  · have HJ := Lib.hid hj
    clear hj
    have ha : 0 ≤ n % 281474976710656 ∧ n % 281474976710656 < 281474976710656 := by omega
    obtain ⟨a, ae⟩ : ∃ a, a = n % 281474976710656 := ⟨_, rfl⟩
    rw [← ae] at ha
    have Ha : Hid (bring n 281474976710656 = a) := by rw [Hid, bring_pos n (by omega), ae]
    clear ae
    have HSa : Hid (bS a 6 = (bg 6 a, 0)) := by
      have e : ftB a 6 = true := by simp [ftB]; omega
      rw [Hid, bS, if_neg (by omega), if_pos e]
      rfl
    have hb : 0 ≤ m % 281474976710656 ∧ m % 281474976710656 < 281474976710656 := by omega
    obtain ⟨b, be⟩ : ∃ b, b = m % 281474976710656 := ⟨_, rfl⟩
    rw [← be] at hb
    have Hb : Hid (bring m 281474976710656 = b) := by rw [Hid, bring_pos m (by omega), be]
    clear be
    have HSb : Hid (bS b 6 = (bg 6 b, 0)) := by
      have e : ftB b 6 = true := by simp [ftB]; omega
      rw [Hid, bS, if_neg (by omega), if_pos e]
      rfl
    obtain ⟨o1, o2⟩ := cmpI_order 6 a b ha.1 ha.2 hb.1 hb.2
    have hcr := cmpI_range (bg 6 a) (bg 6 b)
    generalize hcc : cmpI (bg 6 a) (bg 6 b) = cc at *
    have HC := Lib.hid hcc
    clear hcc
    have o1t : (decide (cc < 0) == decide (a < b)) = true := by rw [o1]; simp
    have o2t : ((cc == 0) == (a == b)) = true := by rw [o2]; simp
    clear o1 o2
    go_enter Try.func9, Try.ntmps9
    have x0 := Ext.refl W
    go_wp2_with fail
    refine (works_any _).mono ?_
    rintro e w1 ⟨rfl, he1⟩
    have t0 := x0.trans he1
    go_wp2_with fail
    refine (bring_any size 7 _ hs.1 hs.2 (by omega) (by omega)).mono ?_
    rw [HJ.out]
    rintro e wsame ⟨rfl, rfl⟩
    go_wp2_with fail
    go_quiet (first
      | (go_at_call_of 30 (Value.int IntKind.i64 n); exact Calls.quiet_of_same (bring_same n _ _ hn.1 hn.2 (by omega) (by omega) a Ha))
      | (go_at_call_of 30 (Value.int IntKind.i64 m); exact Calls.quiet_of_same (bring_same m _ _ hm.1 hm.2 (by omega) (by omega) b Hb)))
    have t1 := t0.drewN nq
    go_wp2_with fail
    refine (Big_any a 6 _ (by omega) (by omega) (by omega) (by omega)).mono ?_
    rw [HSa.out]
    rintro e w2 ⟨v2, rfl, ⟨b2, rfl, ho2⟩, he2⟩
    have t2 := t1.trans he2
    have y2 := Ext.refl w2
    go_wp2_with fail
    refine (Big_any b 6 _ (by omega) (by omega) (by omega) (by omega)).mono ?_
    rw [HSb.out]
    rintro e w3 ⟨v3, rfl, ⟨b3, rfl, ho3⟩, he3⟩
    have t3 := t2.trans he3
    have t4 := y2.trans he3
    have y3 := Ext.refl w3
    go_wp2_with fail
    refine (compare_any _ _ (bg 6 a) (bg 6 b) _ (by exact ho2.row.ext t4) (by exact ho3.row.ext y3)).mono ?_
    rw [HC.out]
    rintro e wsame ⟨rfl, rfl⟩
    go_wp2_with fail
    go_ret
    exact ⟨rfl, t3⟩
  · have HJ := Lib.hid hj
    clear hj
    have ha : 0 ≤ n % 72057594037927936 ∧ n % 72057594037927936 < 72057594037927936 := by omega
    obtain ⟨a, ae⟩ : ∃ a, a = n % 72057594037927936 := ⟨_, rfl⟩
    rw [← ae] at ha
    have Ha : Hid (bring n 72057594037927936 = a) := by rw [Hid, bring_pos n (by omega), ae]
    clear ae
    have HSa : Hid (bS a 7 = (bg 7 a, 0)) := by
      have e : ftB a 7 = true := by simp [ftB]; omega
      rw [Hid, bS, if_neg (by omega), if_pos e]
      rfl
    have hb : 0 ≤ m % 72057594037927936 ∧ m % 72057594037927936 < 72057594037927936 := by omega
    obtain ⟨b, be⟩ : ∃ b, b = m % 72057594037927936 := ⟨_, rfl⟩
    rw [← be] at hb
    have Hb : Hid (bring m 72057594037927936 = b) := by rw [Hid, bring_pos m (by omega), be]
    clear be
    have HSb : Hid (bS b 7 = (bg 7 b, 0)) := by
      have e : ftB b 7 = true := by simp [ftB]; omega
      rw [Hid, bS, if_neg (by omega), if_pos e]
      rfl
    obtain ⟨o1, o2⟩ := cmpI_order 7 a b ha.1 ha.2 hb.1 hb.2
    have hcr := cmpI_range (bg 7 a) (bg 7 b)
    generalize hcc : cmpI (bg 7 a) (bg 7 b) = cc at *
    have HC := Lib.hid hcc
    clear hcc
    have o1t : (decide (cc < 0) == decide (a < b)) = true := by rw [o1]; simp
    have o2t : ((cc == 0) == (a == b)) = true := by rw [o2]; simp
    clear o1 o2
    go_enter Try.func9, Try.ntmps9
    have x0 := Ext.refl W
    go_wp2_with fail
    refine (works_any _).mono ?_
    rintro e w1 ⟨rfl, he1⟩
    have t0 := x0.trans he1
    go_wp2_with fail
    refine (bring_any size 7 _ hs.1 hs.2 (by omega) (by omega)).mono ?_
    rw [HJ.out]
    rintro e wsame ⟨rfl, rfl⟩
    go_wp2_with fail
    go_quiet (first
      | (go_at_call_of 30 (Value.int IntKind.i64 n); exact Calls.quiet_of_same (bring_same n _ _ hn.1 hn.2 (by omega) (by omega) a Ha))
      | (go_at_call_of 30 (Value.int IntKind.i64 m); exact Calls.quiet_of_same (bring_same m _ _ hm.1 hm.2 (by omega) (by omega) b Hb)))
    have t1 := t0.drewN nq
    go_wp2_with fail
    refine (Big_any a 7 _ (by omega) (by omega) (by omega) (by omega)).mono ?_
    rw [HSa.out]
    rintro e w2 ⟨v2, rfl, ⟨b2, rfl, ho2⟩, he2⟩
    have t2 := t1.trans he2
    have y2 := Ext.refl w2
    go_wp2_with fail
    refine (Big_any b 7 _ (by omega) (by omega) (by omega) (by omega)).mono ?_
    rw [HSb.out]
    rintro e w3 ⟨v3, rfl, ⟨b3, rfl, ho3⟩, he3⟩
    have t3 := t2.trans he3
    have t4 := y2.trans he3
    have y3 := Ext.refl w3
    go_wp2_with fail
    refine (compare_any _ _ (bg 7 a) (bg 7 b) _ (by exact ho2.row.ext t4) (by exact ho3.row.ext y3)).mono ?_
    rw [HC.out]
    rintro e wsame ⟨rfl, rfl⟩
    go_wp2_with fail
    go_ret
    exact ⟨rfl, t3⟩

set_option maxRecDepth 100000 in
theorem lebOrder_lifted (os : Os) (started : os.Started) (H : Type) (enc : TypeId × Value → H) :
    ReturnsInHanded {} Try.checked os 9 .any (Rows.lebOrderSpec.pre6 enc Try.prog Try.f9 Rows.lebOrderRow.domain false) (Rows.lebOrderSpec.post enc Try.prog Try.f9 false true false false) := by
  refine returnsInHanded_of_change_sized (C := Try.checked) own started (by kernel_rfl) Try.func9
    (ChangeSpec.witness6 (enc := enc) (C := Try.checked) false ⟨#[], #[.int .i64 0, .int .i64 0, .int .i64 0], []⟩ 8 (by kernel_rfl) (by kernel_rfl) (by kernel_rfl) (by kernel_rfl)) ?_
  intro W base args ds gs before hval0 hW hcnd hsz0 _
  have hval : ∀ (j : Nat) t v, Try.f9.params[j]? = some t → args[j]? = some v → Value.okWide Try.prog W .any base t v := hval0
  have hsz : (DataW.weightsEach Try.prog (Try.f9.params.toList ++ Rows.lebOrderSpec.plain.varTypes Try.prog) (ds ++ gs)).all (· ≤ reachBytes) = true := hsz0
  have hW' := hW
  obtain ⟨p, q, hA0, hV, rfl, hfz, hnd⟩ := hW
  have hA : DataW.TrodAll enc Try.prog W 0 (fun _ => true) true Try.f9.params.toList args.toList ds p := hA0
  rw [Try.params9] at hA hval hsz
  obtain ⟨v0, vs0, d0, ds0, p0, q0, hargs, rfl, rfl, h0, r0⟩ := trodAll_cons hA
  obtain ⟨v1, vs1, d1, ds1, p1, q1, rfl, rfl, rfl, h1, r1⟩ := trodAll_cons r0
  obtain ⟨v2, vs2, d2, ds2, p2, q2, rfl, rfl, rfl, h2, r2⟩ := trodAll_cons r1
  obtain ⟨rfl, rfl, rfl⟩ := trodAll_nil r2
  obtain rfl : args = #[v0, v1, v2] := by cases args; simp_all
  obtain ⟨rfl, rfl⟩ := trodVars_none hV
  obtain ⟨a0, rfl, rfl, rfl, w0⟩ := open_int Try.underlying3 (hval 0 3 v0 rfl rfl) h0
  have z0 := bounds_i64 w0
  obtain ⟨a1, rfl, rfl, rfl, w1⟩ := open_int Try.underlying3 (hval 1 3 v1 rfl rfl) h1
  have z1 := bounds_i64 w1
  obtain ⟨a2, rfl, rfl, rfl, w2⟩ := open_int Try.underlying3 (hval 2 3 v2 rfl rfl) h2
  have z2 := bounds_i64 w2
  clear hA0 hval0 hsz0
  refine (lebOrder_walk W a0 z0 a1 z1 a2 z2).mono fun e W' ⟨he, bel⟩ => ?_
  subst he
  exact ⟨_, rfl, _, _, _, [], _, [], hW', trodAll_mk1 (shut_bool Try.underlying4 _), (trodAll_cons_mk (shut_int Try.underlying3 w0) (trodAll_cons_mk (shut_int Try.underlying3 w1) (trodAll_cons_mk (shut_int Try.underlying3 w2) trodAll_mk0))), rfl, bel.frame _, fun h => by cases h⟩

theorem lebOrder_over : Rows.lebOrderRow.holds Try.pinned (OpenSpec.ofChange Rows.lebOrderSpec) :=
  OpenClaim.holds_of_wide 9 Try.f9 rfl rfl rfl rfl rfl rfl rfl ⟨rfl, rfl, rfl, rfl, rfl⟩ rfl rfl rfl rfl rfl (by kernel_rfl) Try.func9 (by kernel_rfl)
    (of_decide_eq_true (by kernel_rfl)) (by unfold Func.isWrapper; first | (rw [if_pos (by decide +kernel)]; kernel_rfl) | (rw [if_neg (by decide +kernel)]; exact ⟨rfl, rfl⟩))
    (fun os started H enc _ => lebOrder_lifted os started H enc)

/-- The statement. -/
theorem lebOrder_proved : Rows.LebOrderSaid := lebOrder_over
#print axioms lebOrder_proved
end Go.Proofs.Ytdjfdigaokokbaa
