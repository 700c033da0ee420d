/- Contracts of the functions that read texts: the first place of a byte, prefixes. No condition but those that each theorem names. -/
import Derived.Test.YtboanggdehceaaaDoorPrsA
import Derived.Test.YtboanggdehceaaaDoorNumA
namespace Go.Proofs.YtboanggdehceaaaDoor
open Go.RowKit

theorem byte_at (l : List UInt8) {k : Nat} (h : k < l.length) : (⟨l.toArray⟩ : ByteArray)[k]'(by simpa [ByteArray.size] using h) = l.getD k 0 := by
  show l.toArray[k]'(by simpa using h) = l.getD k 0
  rw [List.getD_eq_getElem?_getD, List.getElem?_eq_getElem h]
  simp
theorem toNat_ne {x b : UInt8} (h : x ≠ b) : ((x.toNat : Int) == (b.toNat : Int)) = false := by
  simp
  intro e
  exact h (UInt8.toNat_inj.1 (by omega))
theorem toNat_eq {x b : UInt8} (h : x = b) : ((x.toNat : Int) == (b.toNat : Int)) = true := by subst h; simp

/-- The first place of a byte. -/
def FirstAt (l : List UInt8) (b : UInt8) (e : Ending) : Prop := (∃ k : Nat, k < l.length ∧ l.getD k 0 = b ∧ (∀ i, i < k → l.getD i 0 ≠ b) ∧ e = .returned (.int .i64 k)) ∨ ((∀ i, i < l.length → l.getD i 0 ≠ b) ∧ e = .returned (.int .i64 (-1)))

/-- A part of a text. -/
theorem extract_to (l : List UInt8) (a b : Nat) : (⟨l.toArray⟩ : ByteArray).extract a b = ⟨((l.take b).drop a).toArray⟩ := by
  apply ByteArray.ext
  simp [ByteArray.data_extract]
  rw [List.drop_take]

set_option maxHeartbeats 1000000 in
theorem hasPrefix_one (l : List UInt8) (b : UInt8) (w : World) (hl : l.length ≤ 1048576) :
    Calls Tryd.prog 55 #[.string ⟨l.toArray⟩, .string ⟨#[b]⟩] w fun e w' => e = .returned (.bool (l.head? == some b)) ∧ w = w' := by
  cases l with
  | nil =>
    go_enter Tryd.func55, Tryd.ntmps55
    go_wp2
    go_ret
    exact ⟨rfl, rfl⟩
  | cons x r =>
    have hr : (1 : Int) ≤ ((x :: r).length : Int) := by simp; omega
    have hx : (⟨(x :: r).toArray⟩ : ByteArray).extract 0 1 = ⟨#[x]⟩ := extract_to (x :: r) 0 1
    obtain ⟨n, hn⟩ : ∃ n, (x :: r).length = n := ⟨_, rfl⟩
    go_enter Tryd.func55, Tryd.ntmps55
    go_wp2
    go_ret
    refine ⟨?_, rfl⟩
    show Ending.returned (.bool (x == b)) = _
    rw [show ((x :: r).head? == some b) = (x == b) from by simp]

theorem drop_text (l : List UInt8) (a : Nat) : (⟨l.toArray⟩ : ByteArray).extract a l.length = ⟨(l.drop a).toArray⟩ := by rw [extract_to, List.take_length]
theorem take_text (l : List UInt8) (b : Nat) : (⟨l.toArray⟩ : ByteArray).extract 0 b = ⟨(l.take b).toArray⟩ := by rw [extract_to, List.drop_zero]

set_option maxHeartbeats 1000000 in
theorem prefix_one (l : List UInt8) (b : UInt8) (w : World) (hl : l.length ≤ 1048576) :
    Calls Tryd.prog 44 #[.string ⟨l.toArray⟩, .string ⟨#[b]⟩] w fun e w' => e = .returned (.bool (l.head? == some b)) ∧ w = w' := by
  go_enter Tryd.func44, Tryd.ntmps44
  go_wp2_with fail
  refine (hasPrefix_one l b w hl).mono ?_
  rintro e w1 ⟨rfl, rfl⟩
  go_wp2
  go_ret
  exact ⟨rfl, rfl⟩
set_option maxHeartbeats 1000000 in
theorem cutPrefix_minus (l : List UInt8) (w : World) (hl : l.length ≤ 1048576) :
    Calls Tryd.prog 54 #[.string ⟨l.toArray⟩, .string ⟨#[45]⟩] w fun e w' => e = .returned (.tuple #[.string ⟨(Prs.body l).toArray⟩, .bool (Prs.neg l)]) ∧ w = w' := by
  have key : Calls Tryd.prog 62 #[.string ⟨l.toArray⟩, .string ⟨#[45]⟩] w fun e w' => e = .returned (.tuple #[.string ⟨(Prs.body l).toArray⟩, .bool (Prs.neg l)]) ∧ w = w' := by
    by_cases hn : Prs.neg l = true
    · have hb : Prs.body l = l.drop 1 := by unfold Prs.body; rw [if_pos hn, List.drop_one]
      have hh : (l.head? == some 45) = true := hn
      have hp : (1 : Int) ≤ (l.length : Int) := by
        cases l with
        | nil => simp at hh
        | cons x r => simp; omega
      have hd := drop_text l 1
      rw [hb, hn]
      go_enter Tryd.func62, Tryd.ntmps62
      go_wp2_with fail
      refine (hasPrefix_one l 45 w hl).mono ?_
      rintro e w1 ⟨rfl, rfl⟩
      go_wp2
      exact bodyPost_ret (v := .tuple #[.string ⟨(l.drop 1).toArray⟩, .bool true]) (by simp [results, Tryd.results62, go_sem]) rfl ⟨rfl, rfl⟩
    · have hn' : Prs.neg l = false := by simpa using hn
      have hb : Prs.body l = l := by unfold Prs.body; rw [if_neg hn]
      have hh : (l.head? == some 45) = false := hn'
      rw [hb, hn']
      go_enter Tryd.func62, Tryd.ntmps62
      go_wp2_with fail
      refine (hasPrefix_one l 45 w hl).mono ?_
      rintro e w1 ⟨rfl, rfl⟩
      go_wp2
      exact bodyPost_ret (v := .tuple #[.string ⟨l.toArray⟩, .bool false]) (by simp [results, Tryd.results62, go_sem]) rfl ⟨rfl, rfl⟩
  go_enter Tryd.func54, Tryd.ntmps54
  go_wp2_with fail
  refine key.mono ?_
  rintro e w1 ⟨rfl, rfl⟩
  go_wp2
  exact bodyPost_ret (v := .tuple #[.string ⟨(Prs.body l).toArray⟩, .bool (Prs.neg l)]) (by simp [results, Tryd.results54, go_sem]) rfl ⟨rfl, rfl⟩
end Go.Proofs.YtboanggdehceaaaDoor
