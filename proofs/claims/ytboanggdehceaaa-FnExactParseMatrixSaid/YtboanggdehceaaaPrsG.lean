/- The specification's function that reads a whole text as a number. No condition but those that each theorem names. -/
import Derived.Test.YtboanggdehceaaaPrsE
import Derived.Test.YtboanggdehceaaaPrsB
namespace Go.Proofs.Ytboanggdehceaaa
open Go.RowKit
namespace Prs
/-- A text that is a number of at most 13 digits. -/
def Word (s : List UInt8) (v : Int) : Prop := Cut s v []
theorem word_mk {s : List UInt8} {v : Int} (h : Lib.itoa v = s) (hv : v.natAbs < 10000000000000) : Word s v := ⟨by rw [h, List.append_nil], hv, fun b hb => by simp at hb⟩
theorem Word.eq {s : List UInt8} {v : Int} (h : Word s v) : s = Lib.itoa v := by have := h.1; rwa [List.append_nil] at this
theorem Word.sm {s : List UInt8} {v : Int} (h : Word s v) : Sm v := h.2.1
theorem Word.body {s : List UInt8} {v : Int} (h : Word s v) : body s = Lib.decDigits v.natAbs := by have := (cut_run h).2.2; rwa [List.append_nil] at this
theorem Word.len {s : List UInt8} {v : Int} (h : Word s v) : 1 ≤ (Prs.body s).length ∧ (Prs.body s).length ≤ 13 := by
  rw [h.body]; exact ⟨(dec_at _).1, cut_len h⟩
theorem Word.dig {s : List UInt8} {v : Int} (h : Word s v) {k : Nat} (hk : k < (Prs.body s).length) : D ((Prs.body s).getD k 0) := by
  rw [h.body] at hk ⊢; exact (dec_at _).2.1 k hk
theorem Word.val {s : List UInt8} {v : Int} (h : Word s v) : v = if neg s = true then -(vl (Prs.body s) (Prs.body s).length : Int) else (vl (Prs.body s) (Prs.body s).length : Int) := by
  have h1 := (cut_run h).1
  have h2 := (dec_at v.natAbs).2.2.2.1
  rw [h.body, h2]
  by_cases hn : neg s = true
  · rw [if_pos hn]; have := h1.1 hn; omega
  · rw [if_neg hn]; have : ¬ v < 0 := fun hh => hn (h1.2 hh); omega
end Prs
/-- What a whole text says. -/
def ValR (w : World) (l : List UInt8) (e : Ending) (w' : World) : Prop :=
  ((∃ v, Prs.Word l v ∧ e = .returned (.tuple #[.int .i64 v, .bool true])) ∨ ((¬ ∃ v, Prs.Word l v) ∧ ∃ x, e = .returned (.tuple #[.int .i64 x, .bool false]))) ∧ Below w.heap.size w w'
theorem ValR.no {w w' : World} {l : List UInt8} {x : Int} (h : ¬ ∃ v, Prs.Word l v) (hb : Below w.heap.size w w') : ValR w l (.returned (.tuple #[.int .i64 x, .bool false])) w' := ⟨.inr ⟨h, x, rfl⟩, hb⟩
theorem ValR.yes {w w' : World} {l : List UInt8} {v : Int} (h : Prs.Word l v) (hb : Below w.heap.size w w') : ValR w l (.returned (.tuple #[.int .i64 v, .bool true])) w' := ⟨.inl ⟨v, h, rfl⟩, hb⟩
theorem pow13_ {k : Nat} (h : k ≤ 13) : (10 : Nat) ^ k ≤ 10000000000000 := Nat.le_trans (Nat.pow_le_pow_right (by omega) h) (by decide)
theorem getD_drop {α : Type} (l : List α) (f k : Nat) (z : α) : (l.drop f).getD k z = l.getD (k + f) z := by
  rw [List.getD_eq_getElem?_getD, List.getD_eq_getElem?_getD, List.getElem?_drop, Nat.add_comm]

set_option maxHeartbeats 1000000 in
theorem value_nil (w : World) : Calls Try.prog 26 #[.string ⟨([] : List UInt8).toArray⟩] w (ValR w []) := by
  have NO : Hid (¬ ∃ v, Prs.Word [] v) := Lib.hid (by rintro ⟨v, h⟩; have := h.len.1; simp [Prs.body, Prs.neg] at this)
  go_enter Try.func26, Try.ntmps26
  go_wp2
  go_ret2
  exact ValR.no NO.out (Below.refl _ _)

set_option maxRecDepth 100000 in
set_option maxHeartbeats 8000000 in
theorem value_at0 (U : List UInt8) (x : UInt8) (w : World) (hl : U.length ≤ 1048576) (hx : U.head? = some x) (hng : Prs.neg U = false) : Calls Try.prog 26 #[.string ⟨U.toArray⟩] w (ValR w U) := by
  have lu0 : 0 < U.length := by cases U with | nil => simp at hx | cons a b => simp
  have lu1 : (0 : Int) < (U.length : Int) := by omega
  have b0 := byte_at U lu0
  rw [show U.getD 0 0 = x by cases U with | nil => simp at hx | cons a b => simp at hx; simpa using hx] at b0
  have t0 : ((x.toNat : Int) == 45) = false := toNat_ne (b := 45) (by unfold Prs.neg at hng; rw [hx] at hng; simpa using hng)
  clear hx
  have hbd : Prs.body U = U.drop 0 := by unfold Prs.body; rw [if_neg (by rw [hng]; simp), List.drop_zero]
  obtain ⟨d, hd⟩ : ∃ d, U.drop 0 = d := ⟨_, rfl⟩
  rw [hd] at hbd
  have HG := Lib.hid hng
  have HD := Lib.hid hd
  have HB := Lib.hid hbd
  have UL : U.length = d.length + 0 := by rw [← hd]; simp
  clear hng hd hbd
  have ULH := Lib.hid UL
  have ul1 : U.length ≤ d.length + 0 := by omega
  have ul2 : d.length + 0 ≤ U.length := by omega
  clear UL
  by_cases hs : d.length < 1 ∨ 13 < d.length
  · have NO := Lib.hid (show ¬ ∃ v, Prs.Word U v from by rintro ⟨v, h⟩; have := h.len; rw [HB.out] at this; omega)
    have hs := hs.resolve_left (by omega)
    all_goals
      go_enter Try.func26, Try.ntmps26
      go_wp2
      go_ret2
      exact ValR.no NO.out (Below.refl _ _)
  have s1 : 1 ≤ d.length := by omega
  have s2 : d.length ≤ 13 := by omega
  clear hs
  go_enter Try.func26, Try.ntmps26
  go_wp2
  go_loop [5, 6] (fun y i => ∃ k : Nat, k ≤ d.length ∧ i = .int .i64 ((k + 0 : Nat) : Int) ∧ y = .int .i64 (Prs.vl d k : Nat) ∧ ∀ i, i < k → Prs.D (d.getD i 0)) (fun _ i => U.length - (intOf i).toNat)
  case atStart => exact ⟨0, Nat.zero_le _, rfl, rfl, fun i hi => by omega⟩
  case round =>
    obtain ⟨k, hk, rfl, rfl, hin⟩ := hrel
    have HI := Lib.hid hin
    have VL := Prs.vl_lt hin
    have P13 := pow13_ (k := k) (by omega)
    clear hin
    obtain ⟨v, hv⟩ : ∃ v, Prs.vl d k = v := ⟨_, rfl⟩
    have HV := Lib.hid hv
    rw [hv] at VL
    rw [hv]
    have v0 : v < 10000000000000 := by omega
    clear hv VL P13
    obtain ⟨j, hj⟩ : ∃ j, k + 0 = j := ⟨_, rfl⟩
    have HJ := Lib.hid hj
    have j1 : j ≤ k + 0 := by omega
    have j2 : k + 0 ≤ j := by omega
    rw [hj]
    clear hj
    by_cases hlt : k < d.length
    · have i1 : (j : Int) < (U.length : Int) := by omega
      have hjl : j < U.length := by omega
      have hb := byte_at U hjl
      have i0 : (0 : Int) ≤ (j : Int) := by omega
      obtain ⟨y, hy⟩ : ∃ y, d.getD k 0 = y := ⟨_, rfl⟩
      rw [show U.getD j 0 = y by rw [← hy, ← HD.out, getD_drop, HJ.out]] at hb
      have HY := Lib.hid hy
      clear hy
      by_cases hdg : Prs.D y
      · have HG2 := Lib.hid hdg
        unfold Prs.D at hdg
        have g1 : (48 : Int) ≤ (y.toNat : Int) := by omega
        have g2 : (y.toNat : Int) ≤ 57 := by omega
        clear hdg
        have ws1 : IntKind.i64.wrap (10 * (v : Int)) = 10 * (v : Int) := IntWalk.i64_in _ (by omega)
        have ws2 : IntKind.u8.wrap ((y.toNat : Int) - 48) = (y.toNat : Int) - 48 := by
          obtain ⟨z, hz⟩ : ∃ z : Nat, (y.toNat : Int) - 48 = z := ⟨y.toNat - 48, by omega⟩
          rw [hz]
          have hz9 : z ≤ 9 := by omega
          have : ∀ z : Fin 10, IntKind.u8.wrap ((z.val : Nat) : Int) = ((z.val : Nat) : Int) := by decide
          exact this ⟨z, by omega⟩
        have ws3 : IntKind.i64.wrap ((y.toNat : Int) - 48) = (y.toNat : Int) - 48 := IntWalk.i64_in _ (by omega)
        have ws4 : IntKind.i64.wrap (10 * (v : Int) + ((y.toNat : Int) - 48)) = 10 * (v : Int) + ((y.toNat : Int) - 48) := IntWalk.i64_in _ (by omega)
        have HV2 := Lib.hid (show 10 * (v : Int) + ((y.toNat : Int) - 48) = ((Prs.vl d (k + 1) : Nat) : Int) from by rw [Prs.vl, HV.out, HY.out]; omega)
        go_wp2
        go_round
        case rel => exact ⟨k + 1, by omega, by rw [show k + 1 + 0 = j + 1 by omega]; go_num, by rw [HV2.out], fun i hi => (if e : i = k then (by rw [e, HY.out]; exact HG2.out) else HI.out i (by omega))⟩
        case measure => simp [intOf]; omega
      · have NO := Lib.hid (show ¬ ∃ v, Prs.Word U v from by rintro ⟨v, h⟩; have := h.dig (k := k) (by rw [HB.out]; exact hlt); rw [HB.out, HY.out] at this; exact hdg this)
        have hor : y.toNat < 48 ∨ 57 < y.toNat := by unfold Prs.D at hdg; omega
        clear hdg
        rcases hor with g | g
        · have g1 : (y.toNat : Int) < 48 := by omega
          go_wp2
          go_ret2
          exact ValR.no NO.out (Below.refl _ _)
        · have g1 : (57 : Int) < (y.toNat : Int) := by omega
          have g2 : ¬ (y.toNat : Int) < 48 := by omega
          go_wp2
          go_ret2
          exact ValR.no NO.out (Below.refl _ _)
    · have i1 : ¬ (j : Int) < (U.length : Int) := by omega
      have HK := Lib.hid (show d.length = k by omega)
      clear hk hlt
      have ws5 : IntKind.i64.wrap (-(v : Int)) = -(v : Int) := IntWalk.i64_in _ (by omega)
      have NB := Lib.hid (number_spec (v : Int) w (by omega) (by omega))
      have VAL := Lib.hid (show ∀ u, Prs.Word U u → u = (v : Int) from fun u h => by have := h.val; rw [HG.out, HB.out, HK.out, HV.out] at this; simpa using this)
      by_cases he : Lib.itoa (v : Int) = U
      · have YES := Lib.hid (Prs.word_mk he (by omega))
        rw [he] at NB
        clear he
        go_wp2_with fail
        refine NB.out.mono ?_
        rintro e w1 ⟨rfl, hb⟩
        have HB1 := Lib.hid hb
        clear hb
        go_wp2
        go_ret2
        exact ValR.yes YES.out HB1.out
      · have NO := Lib.hid (show ¬ ∃ v, Prs.Word U v from by rintro ⟨u, h⟩; have h1 := h.eq; rw [VAL.out u h] at h1; exact he h1.symm)
        obtain ⟨u, hu⟩ : ∃ u, Lib.itoa (v : Int) = u := ⟨_, rfl⟩
        rw [hu] at he NB
        have he2 : (u == U) = false := by simpa using he
        clear hu he
        go_wp2_with fail
        refine NB.out.mono ?_
        rintro e w1 ⟨rfl, hb⟩
        have HB1 := Lib.hid hb
        clear hb
        go_wp2
        go_ret2
        exact ValR.no NO.out HB1.out

set_option maxRecDepth 100000 in
set_option maxHeartbeats 8000000 in
theorem value_at1 (U : List UInt8) (x : UInt8) (w : World) (hl : U.length ≤ 1048576) (hx : U.head? = some x) (hng : Prs.neg U = true) : Calls Try.prog 26 #[.string ⟨U.toArray⟩] w (ValR w U) := by
  have lu0 : 0 < U.length := by cases U with | nil => simp at hx | cons a b => simp
  have lu1 : (0 : Int) < (U.length : Int) := by omega
  have b0 := byte_at U lu0
  rw [show U.getD 0 0 = x by cases U with | nil => simp at hx | cons a b => simp at hx; simpa using hx] at b0
  have t0 : ((x.toNat : Int) == 45) = true := toNat_eq (b := 45) (by unfold Prs.neg at hng; rw [hx] at hng; simpa using hng)
  clear hx
  have hbd : Prs.body U = U.drop 1 := by unfold Prs.body; rw [if_pos hng, List.drop_one]
  obtain ⟨d, hd⟩ : ∃ d, U.drop 1 = d := ⟨_, rfl⟩
  rw [hd] at hbd
  have HG := Lib.hid hng
  have HD := Lib.hid hd
  have HB := Lib.hid hbd
  have UL : U.length = d.length + 1 := by rw [← hd]; simp; omega
  clear hng hd hbd
  have ULH := Lib.hid UL
  have ul1 : U.length ≤ d.length + 1 := by omega
  have ul2 : d.length + 1 ≤ U.length := by omega
  clear UL
  by_cases hs : d.length < 1 ∨ 13 < d.length
  · have NO := Lib.hid (show ¬ ∃ v, Prs.Word U v from by rintro ⟨v, h⟩; have := h.len; rw [HB.out] at this; omega)
    rcases hs with hs | hs
    all_goals
      go_enter Try.func26, Try.ntmps26
      go_wp2
      go_ret2
      exact ValR.no NO.out (Below.refl _ _)
  have s1 : 1 ≤ d.length := by omega
  have s2 : d.length ≤ 13 := by omega
  clear hs
  go_enter Try.func26, Try.ntmps26
  go_wp2
  go_loop [5, 6] (fun y i => ∃ k : Nat, k ≤ d.length ∧ i = .int .i64 ((k + 1 : Nat) : Int) ∧ y = .int .i64 (Prs.vl d k : Nat) ∧ ∀ i, i < k → Prs.D (d.getD i 0)) (fun _ i => U.length - (intOf i).toNat)
  case atStart => exact ⟨0, Nat.zero_le _, rfl, rfl, fun i hi => by omega⟩
  case round =>
    obtain ⟨k, hk, rfl, rfl, hin⟩ := hrel
    have HI := Lib.hid hin
    have VL := Prs.vl_lt hin
    have P13 := pow13_ (k := k) (by omega)
    clear hin
    obtain ⟨v, hv⟩ : ∃ v, Prs.vl d k = v := ⟨_, rfl⟩
    have HV := Lib.hid hv
    rw [hv] at VL
    rw [hv]
    have v0 : v < 10000000000000 := by omega
    clear hv VL P13
    obtain ⟨j, hj⟩ : ∃ j, k + 1 = j := ⟨_, rfl⟩
    have HJ := Lib.hid hj
    have j1 : j ≤ k + 1 := by omega
    have j2 : k + 1 ≤ j := by omega
    rw [hj]
    clear hj
    by_cases hlt : k < d.length
    · have i1 : (j : Int) < (U.length : Int) := by omega
      have hjl : j < U.length := by omega
      have hb := byte_at U hjl
      have i0 : (0 : Int) ≤ (j : Int) := by omega
      obtain ⟨y, hy⟩ : ∃ y, d.getD k 0 = y := ⟨_, rfl⟩
      rw [show U.getD j 0 = y by rw [← hy, ← HD.out, getD_drop, HJ.out]] at hb
      have HY := Lib.hid hy
      clear hy
      by_cases hdg : Prs.D y
      · have HG2 := Lib.hid hdg
        unfold Prs.D at hdg
        have g1 : (48 : Int) ≤ (y.toNat : Int) := by omega
        have g2 : (y.toNat : Int) ≤ 57 := by omega
        clear hdg
        have ws1 : IntKind.i64.wrap (10 * (v : Int)) = 10 * (v : Int) := IntWalk.i64_in _ (by omega)
        have ws2 : IntKind.u8.wrap ((y.toNat : Int) - 48) = (y.toNat : Int) - 48 := by
          obtain ⟨z, hz⟩ : ∃ z : Nat, (y.toNat : Int) - 48 = z := ⟨y.toNat - 48, by omega⟩
          rw [hz]
          have hz9 : z ≤ 9 := by omega
          have : ∀ z : Fin 10, IntKind.u8.wrap ((z.val : Nat) : Int) = ((z.val : Nat) : Int) := by decide
          exact this ⟨z, by omega⟩
        have ws3 : IntKind.i64.wrap ((y.toNat : Int) - 48) = (y.toNat : Int) - 48 := IntWalk.i64_in _ (by omega)
        have ws4 : IntKind.i64.wrap (10 * (v : Int) + ((y.toNat : Int) - 48)) = 10 * (v : Int) + ((y.toNat : Int) - 48) := IntWalk.i64_in _ (by omega)
        have HV2 := Lib.hid (show 10 * (v : Int) + ((y.toNat : Int) - 48) = ((Prs.vl d (k + 1) : Nat) : Int) from by rw [Prs.vl, HV.out, HY.out]; omega)
        go_wp2
        go_round
        case rel => exact ⟨k + 1, by omega, by rw [show k + 1 + 1 = j + 1 by omega]; go_num, by rw [HV2.out], fun i hi => (if e : i = k then (by rw [e, HY.out]; exact HG2.out) else HI.out i (by omega))⟩
        case measure => simp [intOf]; omega
      · have NO := Lib.hid (show ¬ ∃ v, Prs.Word U v from by rintro ⟨v, h⟩; have := h.dig (k := k) (by rw [HB.out]; exact hlt); rw [HB.out, HY.out] at this; exact hdg this)
        have hor : y.toNat < 48 ∨ 57 < y.toNat := by unfold Prs.D at hdg; omega
        clear hdg
        rcases hor with g | g
        · have g1 : (y.toNat : Int) < 48 := by omega
          go_wp2
          go_ret2
          exact ValR.no NO.out (Below.refl _ _)
        · have g1 : (57 : Int) < (y.toNat : Int) := by omega
          have g2 : ¬ (y.toNat : Int) < 48 := by omega
          go_wp2
          go_ret2
          exact ValR.no NO.out (Below.refl _ _)
    · have i1 : ¬ (j : Int) < (U.length : Int) := by omega
      have HK := Lib.hid (show d.length = k by omega)
      clear hk hlt
      have ws5 : IntKind.i64.wrap (-(v : Int)) = -(v : Int) := IntWalk.i64_in _ (by omega)
      have NB := Lib.hid (number_spec (-(v : Int)) w (by omega) (by omega))
      have VAL := Lib.hid (show ∀ u, Prs.Word U u → u = (-(v : Int)) from fun u h => by have := h.val; rw [HG.out, HB.out, HK.out, HV.out] at this; simpa using this)
      by_cases he : Lib.itoa (-(v : Int)) = U
      · have YES := Lib.hid (Prs.word_mk he (by omega))
        rw [he] at NB
        clear he
        go_wp2_with fail
        refine NB.out.mono ?_
        rintro e w1 ⟨rfl, hb⟩
        have HB1 := Lib.hid hb
        clear hb
        go_wp2
        go_ret2
        exact ValR.yes YES.out HB1.out
      · have NO := Lib.hid (show ¬ ∃ v, Prs.Word U v from by rintro ⟨u, h⟩; have h1 := h.eq; rw [VAL.out u h] at h1; exact he h1.symm)
        obtain ⟨u, hu⟩ : ∃ u, Lib.itoa (-(v : Int)) = u := ⟨_, rfl⟩
        rw [hu] at he NB
        have he2 : (u == U) = false := by simpa using he
        clear hu he
        go_wp2_with fail
        refine NB.out.mono ?_
        rintro e w1 ⟨rfl, hb⟩
        have HB1 := Lib.hid hb
        clear hb
        go_wp2
        go_ret2
        exact ValR.no NO.out HB1.out

/-- The specification's l01Value. -/
theorem value_spec (l : List UInt8) (w : World) (hl : l.length ≤ 1048576) : Calls Try.prog 26 #[.string ⟨l.toArray⟩] w (ValR w l) := by
  cases l with
  | nil => exact value_nil w
  | cons x t =>
    by_cases hn : Prs.neg (x :: t) = true
    · exact value_at1 _ x w hl rfl hn
    · exact value_at0 _ x w hl rfl (by simpa using hn)
end Go.Proofs.Ytboanggdehceaaa
