/- Contracts of the functions that add the absolute values of a polynomial's terms and that compare the product of two such sums with the limit. No condition but those that each theorem names. -/
import Derived.Test.YtpkjjcfcpmcdiaaLauG
import Derived.Test.YtpkjjcfcpmcdiaaMatL
import Derived.BigQuiet
namespace Go.Proofs.Ytpkjjcfcpmcdiaa
open Go.RowKit

theorem szL_mg (zs : List Int) (k : Nat) : Lau.szL zs (k + 1) = Lau.szL zs k + mg (zs.getD k 0) := by
  rw [Lau.szL]
  split
  · rename_i h; rw [mg_of_neg h]
  · rename_i h; rw [← mg_of_nonneg h]

section
variable (r : Int) (A : Option Addr) (n c : Nat) (zs : List Int) (w : World) (h : Ints w w.heap.size A n zs) (hn : n ≤ 160) (hz : ∀ i, -1000000000000 ≤ zs.getD i 0 ∧ zs.getD i 0 ≤ 1000000000000)
include h hn hz

set_option maxHeartbeats 2000000 in
theorem size_impl : Calls Try.prog 27 #[.agg #[.int .i64 r, .slice A n c]] w fun e w' => e = .returned (.int .i64 (Lau.szL zs n)) ∧ Below w.heap.size w w' := by
  have X0 := Lib.hid (BoxG.new w 26 (.int .i64 r) (.slice A n c))
  have H1 := Lib.hid (h.into (al1 w (Obj.cells #[.int .i64 r, .slice A n c] 26)))
  have HZ := Lib.hid hz
  have HB := Lib.hid (al1 w (Obj.cells #[.int .i64 r, .slice A n c] 26))
  clear h hz
  go_enter Try.func27, Try.ntmps27
  obtain ⟨x0, x1⟩ := X0.out
  go_wp2
  go_loop [9, 3] (fun x y => ∃ k : Nat, k ≤ n ∧ x = .int .i64 k ∧ y = .int .i64 (Lau.szL zs k)) (fun x _ => n - (intOf x).toNat)
  case atStart => exact ⟨0, Nat.zero_le _, rfl, rfl⟩
  case round =>
    obtain ⟨k, hk, rfl, rfl⟩ := hrel
    by_cases hlt : k < n
    · obtain ⟨b, off, z, rfl, _, hz, hc⟩ := H1.out.at_z hlt
      have hbz := HZ.out k
      rw [hz] at hbz
      have v1 := Lau.szL_pos zs k
      have v2 := Lau.szL_le HZ.out k
      have v3 := mg_nonneg z
      have v4 := mg_le hbz
      have Q := Lib.hid (szL_mg zs k)
      rw [hz] at Q
      have MG := Lib.hid (fun W => mag_impl z 1000000000000 W hbz.1 hbz.2 (by omega))
      obtain ⟨v, hv⟩ : ∃ v, Lau.szL zs k = v := ⟨_, rfl⟩
      rw [hv] at Q v1 v2
      rw [hv]
      obtain ⟨u, hu⟩ : ∃ u, mg z = u := ⟨_, rfl⟩
      rw [hu] at Q v3 v4 MG
      have i2 : (0 : Int) ≤ (k : Int) := by omega
      have i3 : (k : Int) < (n : Int) := by omega
      clear hz hbz hv hu
      go_wp2_with fail
      refine (MG.out _).mono ?_
      rintro e w8 ⟨rfl, rfl⟩
      go_wp2
      go_round
      case rel => exact ⟨k + 1, by omega, by go_num, by rw [Q.out]⟩
      case measure => simp [intOf]; omega
    · obtain rfl : n = k := by omega
      go_wp2
      go_ret
      exact ⟨rfl, HB.out⟩

end

def TimesPos (x y : Int) (w : World) (e : Ending) (w' : World) : Prop :=
  (x * y ≤ 1000000000000 → e = .returned (.tuple #[.int .i64 (x * y), .bool true])) ∧ (¬ x * y ≤ 1000000000000 → e = .returned (.tuple #[.int .i64 0, .bool false])) ∧ w = w'
end Go.Proofs.Ytpkjjcfcpmcdiaa
