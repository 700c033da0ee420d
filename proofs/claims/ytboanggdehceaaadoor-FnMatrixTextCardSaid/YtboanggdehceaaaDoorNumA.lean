/- A whole number in decimal: the specification's l01Number writes what the library's itoa says. No condition but those that each theorem names. -/
import Derived.Test.YtboanggdehceaaaDoorMatB
import Derived.Lib.ItoaNum
import Derived.Lib.ItoaLen
import Derived.Laws.Concat
import Derived.Laws.IdiomStrings
import Derived.Deep.RegionWith
namespace Go.Proofs.YtboanggdehceaaaDoor
open Go.RowKit

/-- A text, and nothing below the call's own memory is changed. -/
def NumR (w : World) (l : List UInt8) (e : Ending) (w' : World) : Prop := e = .returned (.string ⟨l.toArray⟩) ∧ Below w.heap.size w w'
theorem itoa_minus {n : Int} (h : n < 0) : Lib.itoa n = 45 :: Lib.itoa (-n) := by
  rw [Lib.itoa, if_pos h, Lib.itoa, if_neg (by omega)]
  congr 2
  omega
theorem itoa_digit {n : Int} (h0 : 0 ≤ n) (h : n < 10) : Lib.itoa n = [UInt8.ofNat (48 + n.toNat)] := by
  rw [Lib.itoa, if_neg (by omega), Lib.decDigits_one (by omega)]
theorem itoa_more {n : Int} (h : 10 ≤ n) : Lib.itoa n = Lib.itoa (n / 10) ++ [UInt8.ofNat (48 + (n % 10).toNat)] := by
  rw [Lib.itoa, if_neg (by omega), Lib.itoa, if_neg (by omega), Lib.decDigits, dif_neg (by omega)]
  congr 3
  · omega
  · congr 1
    omega

theorem itoa_len (n : Int) (h0 : -9223372036854775808 ≤ n) (h1 : n ≤ 9223372036854775807) : (Lib.itoa n).length ≤ 21 := by
  unfold Lib.itoa
  split
  · have := Lib.nDigits_le20 n.natAbs (by omega)
    rw [List.length_cons, Lib.decDigits_length]
    omega
  · have := Lib.nDigits_le20 n.toNat (by omega)
    rw [Lib.decDigits_length]
    omega
theorem add_run (w : World) (a b : List UInt8) (ha : a.length ≤ 8388608) (hb : b.length ≤ 8388608) : (Op.stringOp .add ⟨a.toArray⟩ ⟨b.toArray⟩).run Tryd.prog w = .ok (.string ⟨(a ++ b).toArray⟩) w := by
  rw [run_string_add w _ _ (by show ((a.length : Nat) : Int) ≤ _; omega) (by show ((b.length : Nat) : Int) ≤ _; omega)]
  congr 2

set_option maxRecDepth 100000 in
theorem conv_one (w : World) (g : Nat) (z : Int) (h0 : 0 ≤ z) (h1 : z < 256) (h : w.cell? ⟨g, 0, none⟩ = some (.int .u8 z)) :
    (convert 22 9 (.slice (some { block := g, off := 0 }) 1 1)).run Tryd.prog w = .ok (.string ⟨#[UInt8.ofNat z.toNat]⟩) w := by
  have := run_convert_bytes_back (P := Tryd.prog) w 22 9 5 ⟨g, 0, none⟩ 1 [UInt8.ofNat z.toNat] Tryd.underlying22 Tryd.underlying5 Tryd.underlying9 (fun j hj => by
    have hj : j = 0 := by simpa using hj
    subst hj
    refine (show w.cell? ⟨g, 0, none⟩ = _ from h).trans ?_
    simp
    omega)
  simpa using this

theorem alloc_first (W : World) (g : Nat) (v : Value) (t : TypeId) (h : W.heap.size = g) : (W.alloc (Obj.cells #[v] t)).cell? ⟨g, 0, none⟩ = some v := by
  subst h
  simp

theorem conv_behind (w : World) (z : Int) (V W : World) (hV : V = (W.alloc (Obj.cells #[.int .u8 z] 5)).drew) (hb : Below V.heap.size V w) (h0 : 0 ≤ z) (h1 : z < 256) :
    (convert 22 9 (.slice (some { block := W.heap.size, off := 0 }) 1 1)).run Tryd.prog w = .ok (.string ⟨#[UInt8.ofNat z.toNat]⟩) w := by
  subst hV
  exact conv_one w W.heap.size z h0 h1 ((hb.cell (show W.heap.size < (W.alloc (Obj.cells #[.int .u8 z] 5)).heap.size by simp)).trans (alloc_first W W.heap.size (.int .u8 z) 5 rfl))

set_option maxRecDepth 100000 in
set_option maxHeartbeats 2000000 in
theorem number_small (n : Int) (w : World) (h0 : 0 ≤ n) (h : n < 10) : Calls Tryd.prog 33 #[.int .i64 n] w (NumR w (Lib.itoa n)) := by
  have E := Lib.hid (itoa_digit h0 h)
  have C := conv_one (w.alloc (Obj.cells #[.int .u8 (48 + n)] 5)) w.heap.size (48 + n) (by omega) (by omega) (alloc_first _ _ _ _ rfl)
  have B := Lib.hid (al1 w (Obj.cells #[.int .u8 (48 + n)] 5))
  go_enter Tryd.func33, Tryd.ntmps33
  go_wp2_with fail
  go_ret
  refine ⟨?_, B.out⟩
  rw [E.out, show 48 + n.toNat = (48 + n).toNat by omega]
  rfl

set_option maxRecDepth 100000 in
set_option maxHeartbeats 2000000 in
theorem number_pos (k : Nat) : ∀ (n : Int) (w : World), n.toNat ≤ k → 0 ≤ n → n ≤ 9223372036854775807 → Calls Tryd.prog 33 #[.int .i64 n] w (NumR w (Lib.itoa n)) := by
  induction k with
  | zero => exact fun n w hk h0 h1 => number_small n w h0 (by omega)
  | succ k ih =>
    intro n w hk h0 h1
    rcases Int.lt_or_le n 10 with h | h
    · exact number_small n w h0 h
    · have E := Lib.hid (itoa_more h)
      have X := fun w => ih (n.tdiv 10) w (by rw [Int.tdiv_eq_ediv_of_nonneg h0]; omega) (by rw [Int.tdiv_eq_ediv_of_nonneg h0]; omega) (by rw [Int.tdiv_eq_ediv_of_nonneg h0]; omega)
      have m1 : n.tmod 10 = n % 10 := Int.tmod_eq_emod_of_nonneg h0
      have m2 : 0 ≤ n % 10 := by omega
      have m3 : n % 10 < 10 := by omega
      clear ih
      obtain ⟨q, hq⟩ : ∃ q, n.tdiv 10 = q := ⟨_, rfl⟩
      obtain ⟨d, hd⟩ : ∃ d, n % 10 = d := ⟨_, rfl⟩
      have q0 : 0 ≤ q := by rw [← hq, Int.tdiv_eq_ediv_of_nonneg h0]; omega
      have q1 : q ≤ 9223372036854775807 := by rw [← hq, Int.tdiv_eq_ediv_of_nonneg h0]; omega
      have q2 : n / 10 = q := by rw [← hq, Int.tdiv_eq_ediv_of_nonneg h0]
      rw [q2, hd] at E
      rw [hq] at X
      have LE := itoa_len q (by omega) q1
      obtain ⟨l, hl⟩ : ∃ l, Lib.itoa q = l := ⟨_, rfl⟩
      rw [hl] at X E LE
      have AD := fun w => add_run w l [UInt8.ofNat (48 + d).toNat] (by omega) (by simp)
      have AN : ¬ 9223372036854775807 < l.length + 1 := by omega
      clear hl
      rw [hd] at m1 m2 m3
      clear q2
      have w1 : IntKind.i64.wrap q = q := IntWalk.i64_in _ (by omega)
      have w2 : IntKind.i64.wrap (48 + d) = 48 + d := IntWalk.i64_in _ (by omega)
      have w3 : IntKind.u8.wrap (48 + d) = 48 + d := Int.emod_eq_of_lt (by omega) (by show 48 + d < 256; omega)
      have C1 := conv_one (w.alloc (Obj.cells #[.int .u8 (48 + d)] 5)).drew w.heap.size (48 + d) (by omega) (by omega) (alloc_first w w.heap.size _ _ rfl)
      have X := Lib.hid X
      have z0 : 0 ≤ 48 + d := by omega
      have z1 : 48 + d < 256 := by omega
      go_enter Tryd.func33, Tryd.ntmps33
      go_wp2_with fail
      go_region_with (go_at_call 33; refine (X.out _).mono ?_; rintro e w5 ⟨rfl, hb⟩; have C2 := conv_one (w5.alloc (Obj.cells #[.int .u8 (48 + d)] 5)) w5.heap.size (48 + d) (by omega) (by omega) (alloc_first _ _ _ _ rfl); try have C3 := conv_behind w5 (48 + d) _ w rfl hb z0 z1)
      all_goals
        go_wp2_with fail
        go_ret
        refine ⟨?_, ?_⟩
        · rw [E.out, show 48 + d.toNat = (48 + d).toNat by omega]
          rfl
        · have hb' := (Below.refl _ _).drew.trans hb
          first
            | exact hb'.alloc hb'.size _
            | exact on1 _ hb'

set_option maxRecDepth 100000 in
set_option maxHeartbeats 2000000 in
/-- The specification's l01Number, for every number that has a negative. -/
theorem number_spec (n : Int) (w : World) (h0 : -9223372036854775808 < n) (h1 : n ≤ 9223372036854775807) : Calls Tryd.prog 33 #[.int .i64 n] w (NumR w (Lib.itoa n)) := by
  rcases Int.lt_or_le n 0 with h | h
  · have E := Lib.hid (itoa_minus h)
    have X := Lib.hid (number_pos (-n).toNat (-n) w (by omega) (by omega) (by omega))
    have LE := itoa_len (-n) (by omega) (by omega)
    obtain ⟨l, hl⟩ : ∃ l, Lib.itoa (-n) = l := ⟨_, rfl⟩
    rw [hl] at X E LE
    have AD := add_run w [45] l (by simp) (by omega)
    have w1 : IntKind.i64.wrap (-n) = -n := IntWalk.i64_in _ (by omega)
    have AN : ¬ 9223372036854775807 < 1 + l.length := by omega
    clear hl
    go_enter Tryd.func33, Tryd.ntmps33
    go_wp2_with fail
    refine X.out.mono ?_
    rintro e w5 ⟨rfl, hb⟩
    have AD := add_run w5 [45] l (by simp) (by omega)
    go_wp2_with fail
    go_ret
    refine ⟨?_, hb⟩
    rw [E.out]
    rfl
  · exact number_pos n.toNat n w (by omega) h h1
#print axioms number_spec
end Go.Proofs.YtboanggdehceaaaDoor
