/- What a relator says that a generator is: the program's isLetter, valueFrom. No condition but those that each theorem names. -/
import Derived.Test.YtjommpdblbbkdaaWdJ
import Derived.Test.YtjommpdblbbkdaaWdK
namespace Go.Proofs.Ytjommpdblbbkdaa
open Go.RowKit

set_option maxHeartbeats 1000000 in
theorem letter_yes (i g x : Int) (w : World) (hg : 1 ≤ g) (hg' : g ≤ 1000) (h : x = g ∨ x = -g) :
    Calls Try.prog 75 #[.agg #[.int .i64 i, .int .i64 g], .int .i64 x] w fun e w' => e = .returned (.bool true) ∧ Below w.heap.size w w' := by
  have NG : IntKind.i64.wrap (-g) = -g := IntWalk.i64_in _ (by omega)
  rcases h with h | h
  · have t1 : (x == g) = true := by simpa using h
    clear h
    go_enter Try.func75, Try.ntmps75
    go_wp2
    go_ret
    exact ⟨rfl, al1 _ _⟩
  · have t1 : (x == g) = false := by simp; omega
    have t2 : (x == -g) = true := by simpa using h
    clear h
    go_enter Try.func75, Try.ntmps75
    go_wp2
    go_ret
    exact ⟨rfl, al1 _ _⟩
set_option maxHeartbeats 1000000 in
theorem letter_no (i g x : Int) (w : World) (hg : 1 ≤ g) (hg' : g ≤ 1000) (h : ¬ (x = g ∨ x = -g)) :
    Calls Try.prog 75 #[.agg #[.int .i64 i, .int .i64 g], .int .i64 x] w fun e w' => e = .returned (.bool false) ∧ Below w.heap.size w w' := by
  have NG : IntKind.i64.wrap (-g) = -g := IntWalk.i64_in _ (by omega)
  have t1 : (x == g) = false := by simp; omega
  have t2 : (x == -g) = false := by simp; omega
  clear h
  go_enter Try.func75, Try.ntmps75
  go_wp2
  go_ret
  exact ⟨rfl, al1 _ _⟩

set_option maxHeartbeats 2000000 in
theorem tz_place (i g : Int) (A : Option Addr) (n c : Nat) (zs : List Int) (w : World) (h : Ints w w.heap.size A n zs) (hn : n ≤ 1048576) (hg : 1 ≤ g) (hg' : g ≤ 1000) (ho : 0 < Wd.occ g zs) :
    Calls Try.prog 74 #[.slice A n c, .func (.func 75) #[.agg #[.int .i64 i, .int .i64 g]] #[]] w fun e w' => e = .returned (.int .i64 (Wd.place g zs : Int)) ∧ Below w.heap.size w w' := by
  have hl := Lib.hid h.1
  have H := Lib.hid h
  have hpl := Wd.place_lt ho
  rw [h.1] at hpl
  have AT := Lib.hid (Wd.place_at ho)
  have NO := Lib.hid (fun j (hj : j < Wd.place g zs) => Wd.place_no hj)
  obtain ⟨p, hp⟩ : ∃ p, Wd.place g zs = p := ⟨_, rfl⟩
  rw [hp] at hpl AT NO ⊢
  clear h ho hp
  go_enter Try.func74, Try.ntmps74
  go_wp2
  go_loopw [8] (fun x W => ∃ k : Nat, k ≤ p ∧ x = .int .i64 k ∧ Below w.heap.size w W) (fun x _ => n - (intOf x).toNat)
  case atStart => exact ⟨0, Nat.zero_le _, rfl, Below.refl _ _⟩
  case round =>
    obtain ⟨k, hk, rfl, hbel⟩ := hrel
    have D := Lib.hid hbel
    have hlt : k < n := by omega
    obtain ⟨b, off, z, rfl, hb, hz, hc⟩ := (H.out.below D.out).at_z hlt
    have zs1 : w.heap.size ≤ wr.heap.size := hbel.size
    clear hbel
    by_cases he : k = p
    · subst he
      have AZ := Lib.hid (show z = g ∨ z = -g from by rw [← hz]; exact AT.out)
      clear hz
      go_wp2_with fail
      refine (letter_yes i g z _ hg hg' AZ.out).mono ?_
      rintro e w1 ⟨rfl, hb1⟩
      have D1 := Lib.hid (D.out.trans (hb1.mono zs1))
      clear hb1
      go_wp2
      go_ret
      exact ⟨rfl, D1.out⟩
    · have AZ := Lib.hid (show ¬ (z = g ∨ z = -g) from by rw [← hz]; exact NO.out k (by omega))
      clear hz
      go_wp2_with fail
      refine (letter_no i g z _ hg hg' AZ.out).mono ?_
      rintro e w1 ⟨rfl, hb1⟩
      have D1 := Lib.hid (D.out.trans (hb1.mono zs1))
      clear hb1
      go_wp2
      go_roundw
      case rel => exact ⟨k + 1, by omega, by go_num, D1.out⟩
      case measure => simp [intOf]; omega

set_option maxRecDepth 100000 in
set_option maxHeartbeats 4000000 in
theorem tz_value (i g : Int) (A : Option Addr) (n c : Nat) (zs : List Int) (w : World) (h : Ints w w.heap.size A n zs) (hn : n ≤ 1048576) (hc : n ≤ c) (hm : c ≤ maxLen) (hg : 1 ≤ g) (hg' : g ≤ 1000) (ho : 0 < Wd.occ g zs) (hs : Wd.Sm zs) :
    Calls Try.prog 72 #[.agg #[.int .i64 i, .int .i64 g], .slice A n c] w (ResLM w (Wd.solve g zs)) := by
  unfold maxLen at hm
  have hpl := Wd.place_lt ho
  rw [h.1] at hpl
  have AT := Lib.hid (Wd.place_at ho)
  have PL := Lib.hid (fun (W : World) (hb : Below w.heap.size w W) => tz_place i g A n c zs W (h.into hb) hn hg hg' ho)
  have SO := Lib.hid (show Wd.solve g zs = (if zs.getD (Wd.place g zs) 0 = g then Wd.inv (Lau.cut zs (Wd.place g zs + 1) n ++ Lau.cut zs 0 (Wd.place g zs)) else Lau.cut zs (Wd.place g zs + 1) n ++ Lau.cut zs 0 (Wd.place g zs)) from by
    unfold Wd.solve Lau.cut
    rw [List.take_of_length_le (Nat.le_of_eq h.1), List.drop_zero])
  have SMR := Lib.hid (show Wd.Sm (Lau.cut zs (Wd.place g zs + 1) n ++ Lau.cut zs 0 (Wd.place g zs)) from (fun x hx => by
    rcases List.mem_append.1 hx with hx | hx
    · exact hs x (List.mem_of_mem_take (List.mem_of_mem_drop hx))
    · exact hs x (List.mem_of_mem_take (List.mem_of_mem_drop hx))))
  obtain ⟨b, off, rfl, hb, _⟩ := h.2 (by omega)
  have H := Lib.hid h
  have LEN := Lib.hid (show (Lau.cut zs (Wd.place g zs + 1) n ++ Lau.cut zs 0 (Wd.place g zs)).length ≤ 1048576 from by
    rw [List.length_append, Lau.cut_len (Nat.le_of_eq h.1.symm), Lau.cut_len (by rw [h.1]; omega)]
    omega)
  obtain ⟨p, hp⟩ : ∃ p, Wd.place g zs = p := ⟨_, rfl⟩
  rw [hp] at hpl AT SO SMR PL LEN
  obtain ⟨z, hz⟩ : ∃ z, zs.getD p 0 = z := ⟨_, rfl⟩
  have Z := Lib.hid hz
  rw [hz] at AT SO
  obtain ⟨q, hq⟩ : ∃ q, Lau.cut zs (p + 1) n ++ Lau.cut zs 0 p = q := ⟨_, rfl⟩
  have CAT := Lib.hid (fun (m1 : Nat) (A1 A2 : Option Addr) (c1 c2 : Nat) (W : World) (hm1 : m1 = n - (p + 1)) (h1 : Ints W W.heap.size A1 m1 (Lau.cut zs (p + 1) n)) (h2 : Ints W W.heap.size A2 p (Lau.cut zs 0 p)) =>
    concat_any A1 A2 m1 c1 p c2 W.heap.size (Lau.cut zs (p + 1) n) (Lau.cut zs 0 p) (W.alloc (Obj.cells #[.slice A1 m1 c1, .slice A2 p c2] 34)) (h1.into (al1 _ _)) (h2.into (al1 _ _)) (by omega) (BoxG.new _ _ _ _) (by simp))
  rw [hq] at SO SMR CAT LEN
  have i0 : (0 : Int) ≤ (p : Int) + 1 := by omega
  have i1 : ((p : Int) + 1).toNat = p + 1 := by omega
  have i2 : IntKind.i64.wrap ((p : Int) + 1) = (p : Int) + 1 := IntWalk.i64_in _ (by omega)
  have i3 : (p : Int) + 1 ≤ (n : Int) := by omega
  have i4 : (p : Int) ≤ (c : Int) := by omega
  have i5 : (0 : Int) ≤ (p : Int) := by omega
  clear h ho hp hz hs hq
  go_enter Try.func72, Try.ntmps72
  go_wp2_with fail
  refine (PL.out _ (al1 _ _)).mono ?_
  rintro e w1 ⟨rfl, hb1⟩
  have D1 := Lib.hid (on1 _ hb1)
  have z1 : w.heap.size ≤ w1.heap.size := D1.out.size
  clear hb1 PL
  have HX0 := Lib.hid (H.out.into D1.out)
  by_cases hcp : p + 1 = c
  all_goals
    go_upto_region 2 with fail
    go_still_tail 7, (by kernel_rfl)
    change wpList _ _ _ _ _ w1.drew
    have HX := Lib.hid (show Ints w1.drew w1.drew.heap.size (some ⟨b, off, none⟩) n zs from HX0.out)
    have DX := Lib.hid (show Below w.heap.size w w1.drew from D1.out.drew)
    obtain ⟨V, hV⟩ : ∃ V, V = w1.drew := ⟨_, rfl⟩
    have zV : w.heap.size ≤ V.heap.size := by rw [hV]; exact z1
    rw [← hV] at HX DX
    rw [← hV]
    clear hV HX0
    have P2 := Lib.hid (Wd.ints_part HX.out (i := 0) (j := p) (by omega) (by omega))
    rw [Nat.add_zero, Nat.sub_zero] at P2
    have P1 := Lib.hid (Wd.ints_part HX.out (i := p + 1) (j := n) (by omega) (by omega))
    have P0 := Lib.hid (fun (A1 : Option Addr) (m1 : Nat) (hm1 : m1 = 0) (h0 : n = p + 1) => (show Ints V V.heap.size A1 m1 (Lau.cut zs (p + 1) n) from by
      have e : Lau.cut zs (p + 1) n = [] := by rw [h0]; exact Lau.cut_none _ _
      rw [e, hm1]
      exact Wd.ints_nil _))
    go_wp2_with fail
    refine (CAT.out _ _ _ _ _ _ (by omega) (by first | exact P1.out | exact P0.out _ _ rfl (by omega)) P2.out).mono ?_
    rintro e w2 ⟨A2, c2, rfl, q1, q2, hown, hb2⟩
    have z2 : V.heap.size + 1 ≤ w2.heap.size := by have := hb2.size; simpa using this
    have D2 := Lib.hid (DX.out.trans ((on1 _ hb2).mono zV))
    have O2 := Lib.hid (hown.mine.wide (lo' := w.heap.size) (hi' := w2.heap.size) (by simp; omega) (Nat.le_refl _))
    have Q := Lib.hid (And.intro q1 q2)
    obtain ⟨b', off', z', e', _, hz', hcz⟩ := (HX.out.into (on1 _ hb2)).at_z hpl
    cases e'
    rw [Z.out] at hz'
    subst hz'
    clear hown hb2 q1 q2 P1 P2 P0 HX
    rcases AT.out with hzg | hzg
    · have S1 := Lib.hid (show Wd.solve g zs = Wd.inv q from by rw [SO.out, if_pos hzg])
      have tp : 0 < z := by omega
      clear hzg
      go_wp2_with fail
      refine (invw_impl A2 q.length c2 q _ (O2.out.ints) LEN.out SMR.out).mono ?_
      rintro e w3 ⟨R, t, rfl, hc3, hm3, hb3⟩
      have C3 := Lib.hid hc3
      have M3 := Lib.hid hm3
      have D3 := Lib.hid (D2.out.trans (hb3.mono (by omega)))
      clear hc3 hm3 hb3
      go_wp2
      go_ret
      rw [S1.out]
      exact ⟨R, t, rfl, C3.out, M3.out.wide (by omega) (Nat.le_refl _), D3.out⟩
    · have S1 := Lib.hid (show Wd.solve g zs = q from by rw [SO.out, if_neg (by omega)])
      have tp : ¬ 0 < z := by omega
      clear hzg
      go_wp2
      go_ret
      rw [S1.out]
      exact ⟨A2, c2, rfl, Q.out, O2.out, D2.out⟩

end Go.Proofs.Ytjommpdblbbkdaa
