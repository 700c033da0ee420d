/- Lists of numbers other than 0: the library's search and deletion with the program's predicate. No condition but those that each theorem names. -/
import Derived.Test.YtpojkahlllochaaSmK
import Derived.Lib.SliceRun
namespace Go.Proofs.Ytpojkahlllochaa
open Go.RowKit

def nz (l : List Int) : List Int := l.filter (fun x => decide (x ≠ 0))
theorem take_next {l : List Int} {j : Nat} (h : j < l.length) : l.take (j + 1) = l.take j ++ [l.getD j 0] := by
  rw [List.take_add_one, List.getD_eq_getElem?_getD, List.getElem?_eq_getElem h]; rfl
theorem nz_next {l : List Int} {j : Nat} (h : j < l.length) : nz (l.take (j + 1)) = nz (l.take j) ++ (if l.getD j 0 = 0 then [] else [l.getD j 0]) := by
  unfold nz
  rw [take_next h, List.filter_append]
  obtain ⟨x, hx⟩ : ∃ x, l.getD j 0 = x := ⟨_, rfl⟩
  rw [hx]
  congr 1
  by_cases e : x = 0
  · rw [if_pos e]; simp [e]
  · rw [if_neg e]; simp [e]
theorem nz_keep {l : List Int} {j : Nat} (h : j < l.length) (e : l.getD j 0 ≠ 0) : nz (l.take (j + 1)) = nz (l.take j) ++ [l.getD j 0] := by rw [nz_next h, if_neg e]
theorem nz_skip {l : List Int} {j : Nat} (h : j < l.length) (e : l.getD j 0 = 0) : nz (l.take (j + 1)) = nz (l.take j) := by rw [nz_next h, if_pos e, List.append_nil]
theorem nz_all {l : List Int} : ∀ {k : Nat}, k ≤ l.length → (∀ i, i < k → l.getD i 0 ≠ 0) → nz (l.take k) = l.take k
  | 0, _, _ => rfl
  | k + 1, hk, h => by rw [nz_keep (by omega) (h k (by omega)), nz_all (k := k) (by omega) (fun i hi => h i (by omega)), take_next (by omega)]
theorem nz_len (l : List Int) : (nz l).length ≤ l.length := List.length_filter_le _ _

/-- Part of an owned slice, from its beginning. -/
theorem Own.part {w : World} {lo hi g n c i : Nat} {l : List Int} (h : Own w lo hi (some ⟨g, 0, none⟩) n c l) (hi' : i ≤ n) : Own w lo hi (some ⟨g, 0, none⟩) i c (l.take i) := by
  have hl := h.len
  refine ⟨⟨by simp [hl]; omega, ?_⟩, h.2⟩
  rcases h.1.2 with ⟨h0, _⟩ | ⟨g', cap, cur, hv, hb, hg, h1, h2, h3, h4⟩
  · cases h0
  · injection hv with e1 e2 e3
    subst e3
    refine .inr ⟨g', c, cur, by rw [e1], hb, hg, by omega, h2, h3, ?_⟩
    have : cur.toList.take (i * 1) = (cur.toList.take (n * 1)).take (i * 1) := by rw [List.take_take]; congr 1; omega
    rw [this, h4, ← List.map_take, Nat.mul_one]
/-- Numbers stored from place o on. -/
def putAt : List Int → Nat → List Int → List Int
  | l, _, [] => l
  | l, o, x :: r => putAt (l.set o x) (o + 1) r
theorem putAt_take : ∀ (vs : List Int) (l : List Int) (o : Nat), (putAt l o vs).take o = l.take o
  | [], _, _ => rfl
  | x :: r, l, o => by
    have h := putAt_take r (l.set o x) (o + 1)
    have h2 : (putAt l o (x :: r)).take o = ((putAt (l.set o x) (o + 1) r).take (o + 1)).take o := by rw [List.take_take]; simp [putAt]
    rw [h2, h, List.take_take]
    rw [show min o (o + 1) = o by omega]
    apply List.ext_getElem?
    intro j
    rw [List.getElem?_take, List.getElem?_take]
    by_cases hj : j < o
    · rw [if_pos hj, if_pos hj, List.getElem?_set_ne (by omega)]
    · rw [if_neg hj, if_neg hj]
theorem Own.putAt {lo hi g n c : Nat} : ∀ (vs : List Int) (o : Nat) (w : World) (l : List Int), Own w lo hi (some ⟨g, 0, none⟩) n c l → Own (w.setCells g o (vs.map (Value.int .i64))) lo hi (some ⟨g, 0, none⟩) n c (putAt l o vs)
  | [], _, _, _, h => h
  | x :: r, o, _, _, h => Own.putAt r (o + 1) _ _ (h.set_ o x)
theorem Kept.setCells {w0 : World} {lo hi g : Nat} (h1 : lo ≤ g) (h2 : g < hi) : ∀ (vs : List Value) (o : Nat) (w : World), Kept lo hi w0 w → Kept lo hi w0 (w.setCells g o vs)
  | [], _, _, h => h
  | v :: r, o, _, h => Kept.setCells h1 h2 r (o + 1) _ (h.set_ (p := ⟨g, o, none⟩) h1 h2 v)

set_option maxHeartbeats 1000000 in
theorem index_nz (A : Option Addr) (n c : Nat) (l : List Int) (w : World) (h : Ints w w.heap.size A n l) (hn : n ≤ 2304) :
    Calls Try.prog 116 #[.slice A n c, .func (.func 106) #[] #[]] w fun e w' => (((∀ i, i < n → l.getD i 0 ≠ 0) ∧ e = .returned (.int .i64 (-1))) ∨ ∃ k : Nat, k < n ∧ l.getD k 0 = 0 ∧ (∀ i, i < k → l.getD i 0 ≠ 0) ∧ e = .returned (.int .i64 k)) ∧ w = w' := by
  have H := Lib.hid h
  clear h
  go_enter Try.func116, Try.ntmps116
  go_wp2
  go_loop [8, 5] (fun x _ => ∃ k : Nat, k ≤ n ∧ x = .int .i64 k ∧ ∀ i, i < k → l.getD i 0 ≠ 0) (fun x _ => n - (intOf x).toNat)
  case atStart => exact ⟨0, Nat.zero_le _, rfl, fun i hi => by omega⟩
  case round =>
    obtain ⟨k, hk, rfl, hin⟩ := hrel
    have HI := Lib.hid hin
    clear hin
    by_cases hlt : k < n
    · obtain ⟨b, off, z, rfl, hb, hz, hc⟩ := H.out.at_z hlt
      have i0 : (0 : Int) ≤ (k : Int) := by omega
      have i1 : (k : Int) < (n : Int) := by omega
      have HZ := Lib.hid hz
      clear hz
      by_cases hz0 : z = 0
      · have t1 : (z == 0) = true := by simpa using hz0
        have HZ0 := Lib.hid hz0
        clear hz0
        go_wp2
        go_ret
        exact ⟨.inr ⟨k, hlt, HZ.out.trans HZ0.out, HI.out, rfl⟩, rfl⟩
      · have t1 : (z == 0) = false := by simpa using hz0
        have HZ0 := Lib.hid hz0
        clear hz0
        go_wp2
        go_round
        case rel => exact ⟨k + 1, by omega, by go_num, fun i hi => (if e : i = k then (by rw [e, HZ.out]; exact HZ0.out) else HI.out i (by omega))⟩
        case measure => simp [intOf]; omega
    · obtain rfl : k = n := by omega
      go_wp2
      go_ret
      exact ⟨.inl ⟨HI.out, rfl⟩, rfl⟩

/-- How a deletion stands: the numbers kept so far lie ahead of place i, those from place j on are untouched. -/
structure Cutting (l L : List Int) (n i j : Nat) : Prop where
  ll : l.length = n
  len : L.length = n
  num : i = (nz (l.take j)).length
  ahead : L.take i = nz (l.take j)
  far : ∀ t, j ≤ t → L.getD t 0 = l.getD t 0
  lt : i < j
  le : j ≤ n
theorem Cutting.skip {l L : List Int} {n i j : Nat} (h : Cutting l L n i j) (hj : j < n) (e : l.getD j 0 = 0) : Cutting l L n i (j + 1) :=
  ⟨h.ll, h.len, by rw [nz_skip (by rw [h.ll]; exact hj) e]; exact h.num, by rw [nz_skip (by rw [h.ll]; exact hj) e]; exact h.ahead, fun t ht => h.far t (by omega), by have := h.lt; omega, hj⟩
theorem Cutting.keep {l L : List Int} {n i j : Nat} (h : Cutting l L n i j) (hj : j < n) (e : l.getD j 0 ≠ 0) : Cutting l (L.set i (l.getD j 0)) n (i + 1) (j + 1) := by
  have hk := nz_keep (by rw [h.ll]; exact hj) e
  have hlt := h.lt
  refine ⟨h.ll, by rw [List.length_set]; exact h.len, by rw [hk, List.length_append, ← h.num]; rfl, ?_, fun t ht => ?_, by omega, hj⟩
  · rw [take_next (by rw [List.length_set, h.len]; omega), hk, ← h.ahead]
    congr 1
    · apply List.ext_getElem?
      intro t
      rw [List.getElem?_take, List.getElem?_take]
      by_cases ht : t < i
      · rw [if_pos ht, if_pos ht, List.getElem?_set_ne (by omega)]
      · rw [if_neg ht, if_neg ht]
    · rw [List.getD_eq_getElem?_getD, List.getElem?_set_self (by rw [h.len]; omega)]; rfl
  · rw [List.getD_eq_getElem?_getD, List.getElem?_set_ne (by omega), ← List.getD_eq_getElem?_getD]
    exact h.far t (by omega)

set_option maxRecDepth 100000 in
set_option maxHeartbeats 4000000 in
theorem delete_nz (A : Option Addr) (n c lo hi : Nat) (l : List Int) (w : World) (h : Own w lo hi A n c l) (hhi : hi ≤ w.heap.size) (hn : n ≤ 2304) :
    Calls Try.prog 105 #[.slice A n c, .func (.func 106) #[] #[]] w fun e w' => ∃ A' c', e = .returned (.slice A' (nz l).length c') ∧ Own w' lo hi A' (nz l).length c' (nz l) ∧ Kept lo hi w w' := by
  have hl := h.len
  have H := Lib.hid h
  have HI := Lib.hid (index_nz A n c l w (h.ints.more hhi) hn)
  clear h
  go_enter Try.func105, Try.ntmps105
  go_wp2_with fail
  refine HI.out.mono ?_
  rintro e w1 ⟨h1, rfl⟩
  rcases h1 with ⟨hall, rfl⟩ | ⟨k0, hk0, hz0, hall, rfl⟩
  · have hnz : nz l = l := by have := nz_all (l := l) (k := n) (by omega) hall; rwa [List.take_of_length_le (by omega)] at this
    have HNZ := Lib.hid hnz
    have HL := Lib.hid hl
    clear hall hnz hl
    go_wp2
    go_ret
    rw [HNZ.out, HL.out]
    exact ⟨A, c, rfl, H.out, Kept.refl _ _ _⟩
  · obtain ⟨g, _, eg, hlo, hlt, _⟩ := H.out.at_ hk0
    subst eg
    have C0 := Lib.hid (show Cutting l l n k0 (k0 + 1) from by
      have e1 : nz (l.take (k0 + 1)) = l.take k0 := by rw [nz_skip (by omega) hz0, nz_all (by omega) hall]
      exact ⟨hl, hl, by rw [e1]; simp; omega, by rw [e1], fun t _ => rfl, by omega, by omega⟩)
    have tm : ((k0 : Int) == -1) = false := beq_eq_false_iff_ne.2 (by omega)
    have hcap := (H.out.cap (by omega))
    clear hz0 hall
    go_wp2
    go_loopw [5, 6, 7] (fun x y _ wr => ∃ (i j : Nat) (L : List Int), x = .int .i64 i ∧ y = .int .i64 j ∧ Cutting l L n i j ∧ Own wr lo hi (some ⟨g, 0, none⟩) n c L ∧ Kept lo hi w wr) (fun _ y _ _ => n - (intOf y).toNat)
    case atStart => exact ⟨k0, k0 + 1, l, rfl, by go_num, C0.out, H.out, Kept.refl _ _ _⟩
    case round =>
      obtain ⟨i, j, L, rfl, rfl, hcut, hown, hkept⟩ := hrel
      have HC := Lib.hid hcut
      have HO := Lib.hid hown
      have HK := Lib.hid hkept
      have hij := hcut.lt
      have hjn := hcut.le
      have sz : w.heap.size ≤ wr.heap.size := hkept.size
      clear hcut hown hkept
      by_cases hlt2 : j < n
      · obtain ⟨g', z, eg, _, _, hz, hc, hf⟩ := HO.out.at_ hlt2
        cases eg
        obtain ⟨g', y, eg, _, _, hy, hcy, hfy⟩ := HO.out.at_ (show i < n by omega)
        cases eg
        have hz' : l.getD j 0 = z := by rw [← HC.out.far j (Nat.le_refl _)]; exact hz
        have HZ := Lib.hid hz'
        have i0 : (0 : Int) ≤ (j : Int) := by omega
        have i1 : (j : Int) < (n : Int) := by omega
        have i2 : (0 : Int) ≤ (i : Int) := by omega
        have i3 : (i : Int) < (n : Int) := by omega
        have hgw : g < wr.heap.size := by omega
        clear hz hz' hy
        by_cases hz0 : z = 0
        · have t1 : (z == 0) = true := by simpa using hz0
          have HZ0 := Lib.hid hz0
          clear hz0
          go_wp2
          go_roundw
          case rel => exact ⟨i, j + 1, L, rfl, by go_num, HC.out.skip hlt2 (HZ.out.trans HZ0.out), HO.out, HK.out⟩
          case measure => simp [intOf]; omega
        · have t1 : (z == 0) = false := by simpa using hz0
          have HZ0 := Lib.hid hz0
          clear hz0
          go_wp2
          go_roundw
          case rel => exact ⟨i + 1, j + 1, L.set i z, by go_num, by go_num, by have := HC.out.keep hlt2 (by rw [HZ.out]; exact HZ0.out); rw [HZ.out] at this; exact this, HO.out.set_ _ _, HK.out.set_ (p := ⟨g, i, none⟩) (by dsimp only; omega) (by dsimp only; omega) _⟩
          case measure => simp [intOf]; omega
      · obtain rfl : j = n := by omega
        have hcl : ∀ ty, (Builtin.clear_ #[24] ty #[.slice (some ⟨g, i, none⟩) (j - i) (c - i)]).run Try.prog wr = .ok (.tuple #[]) (wr.setCells g i (List.replicate (j - i) (.int .i64 0))) :=
          fun ty => Lib.run_clear_slice wr _ _ ty _ Try.underlying24 (fun _ => rfl) rfl rfl g i _ _ (by omega) (fun t ht => by obtain ⟨g', z, eg, _, _, hz, hc, hf⟩ := HO.out.at_ (show i + t < j by omega); cases eg; rw [hc]; rfl) (fun t ht => by obtain ⟨g', z, eg, _, _, hz, hc, hf⟩ := HO.out.at_ (show i + t < j by omega); cases eg; exact hf)
        have i2 : (0 : Int) ≤ (i : Int) := by omega
        have i3 : (i : Int) ≤ (j : Int) := by omega
        have i4 : (i : Int) ≤ (c : Int) := by have := hcap.1; omega
        have i5 : (j : Int) ≤ (c : Int) := by have := hcap.1; omega
        go_wp2
        go_ret
        have hI := HC.out
        have e1 : nz (l.take j) = nz l := by rw [List.take_of_length_le (by have := hI.ll; omega)]
        have e2 : i = (nz l).length := by rw [← e1]; exact hI.num
        have e3 : (List.replicate (j - i) (Value.int .i64 0)) = (List.replicate (j - i) (0 : Int)).map (Value.int .i64) := by rw [List.map_replicate]
        refine ⟨some ⟨g, 0, none⟩, c, by rw [← e2]; rfl, ?_, Kept.setCells hlo hlt _ _ _ HK.out⟩
        rw [e3, ← e2]
        have := (Own.putAt (List.replicate (j - i) 0) i wr L HO.out).part (i := i) (by omega)
        rw [putAt_take, hI.ahead, e1] at this
        exact this

end Go.Proofs.Ytpojkahlllochaa
