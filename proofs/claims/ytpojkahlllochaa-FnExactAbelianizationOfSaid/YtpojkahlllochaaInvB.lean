/- The diagonal of a matrix as a list, and the program's InvariantFactors. No condition but those that each theorem names. -/
import Derived.Test.YtpojkahlllochaaInvA
import Derived.Test.YtpojkahlllochaaSmS
import Derived.Deep.AppendLies
namespace Go.Proofs.Ytpojkahlllochaa
open Go.RowKit

/-- The first k numbers of the diagonal. -/
def diag (C : Nat) (d : List Int) : Nat → List Int
  | 0 => []
  | k + 1 => diag C d k ++ [d.getD (k * C + k) 0]
theorem diag_len (C : Nat) (d : List Int) (k : Nat) : (diag C d k).length = k := by
  induction k with
  | zero => rfl
  | succ k ih => rw [diag, List.length_append, ih]; rfl
/-- One number appended to an owned slice. -/
theorem push_own {V w6 w7 : World} {A2 : Option Addr} {c2 gg cap : Nat} {l : List Int} {z : Int} (hb : Below V.heap.size V w6) (ho : Own w6 V.heap.size w6.heap.size A2 l.length c2 l)
    (hown7 : w7.ownsRow V.heap.size 2 1 (.slice (some ⟨gg, 0, none⟩) (l.length + 1) cap) (l.length + 1) (l.map (Value.int .i64) ++ [.int .i64 z])) (hgrow : (w6.alloc (Obj.cells #[.int .i64 z] 2)).grownBy w7 (Value.slice A2 l.length c2).ownBlock) (hlt : gg < w7.heap.size) :
    Own w7 V.heap.size w7.heap.size (some ⟨gg, 0, none⟩) (l ++ [z]).length cap (l ++ [z]) ∧ Below V.heap.size V w7 := by
  refine ⟨?_, (hb.alloc hb.size _).grown hgrow (by have := hb.size; simp; omega) (fun k hk => (ho.1.lt k hk).1)⟩
  rw [List.length_append]
  exact ⟨by simpa using hown7, fun a ha => by cases ha; exact hlt⟩
theorem own_empty (w : World) : Own (w.alloc (Obj.cells #[] 2)) w.heap.size (w.alloc (Obj.cells #[] 2)).heap.size (some ⟨w.heap.size, 0, none⟩) 0 0 [] := by
  have := World.ownsRow_lit (base := w.heap.size) (e := 2) (size := 1) w #[] 0 (by simp) (by unfold maxLen; omega) (by simp)
  exact ⟨by simpa using this, fun a ha => by cases ha; simp⟩
/-- A list in new memory. -/
def ResD (w : World) (l : List Int) (e : Ending) (w' : World) : Prop := ∃ A c, e = .returned (.slice A l.length c) ∧ Own w' w.heap.size w'.heap.size A l.length c l ∧ Below w.heap.size w w'
/-- A list in new memory, with a code. -/
def ResL (w : World) (l : List Int) (code : Int) (e : Ending) (w' : World) : Prop := ∃ A c, e = .returned (.tuple #[.slice A l.length c, .int .i64 code]) ∧ Own w' w.heap.size w'.heap.size A l.length c l ∧ Below w.heap.size w w'

set_option maxRecDepth 100000 in
set_option maxHeartbeats 4000000 in
theorem diagonal_impl (R C : Nat) (A : Option Addr) (n c : Nat) (d : List Int) (w : World) (h : Ints w w.heap.size A n d) (hn : n = R * C) (hR : R ≤ 48) (hC : C ≤ 48) :
    Calls Try.prog 104 #[.agg #[.int .i64 R, .int .i64 C, .slice A n c]] w (ResD w (diag C d (min R C))) := by
  have p1 := rc_le hR hC
  have HN := Lib.hid hn
  have H := Lib.hid h
  obtain ⟨i0, hi0, hz0, hz1, hz2⟩ := info_parts info2
  have HI := Lib.hid (And.intro hi0 (And.intro hz0 (And.intro hz1 hz2)))
  have K0 := Lib.hid (Box3.new w 77 (.int .i64 R) (.int .i64 C) (.slice A n c))
  have D0 := Lib.hid (al1 w (Obj.cells #[.int .i64 R, .int .i64 C, .slice A n c] 77))
  clear hn hi0 hz0 hz1 hz2 h
  rcases Nat.lt_or_ge C R with hcr | hcr
  all_goals
    obtain ⟨M, hM⟩ : ∃ M, min R C = M := ⟨_, rfl⟩
    have hMR : M ≤ R := by omega
    have hMC : M ≤ C := by omega
    first
      | (have hMe : M = C := by omega)
      | (have hMe : M = R := by omega)
    rw [hM]
    have HM := Lib.hid hMe
    clear hM hMe
    go_enter Try.func104, Try.ntmps104
    go_wp2
    obtain ⟨V, hV⟩ : ∃ V, V = w.alloc (Obj.cells #[.int .i64 R, .int .i64 C, .slice A n c] 77) := ⟨_, rfl⟩
    have s0 : w.heap.size < V.heap.size := by rw [hV]; simp
    rw [← hV] at K0 D0
    rw [← hV]
    clear hV
    go_loopw [10, 4, 3] (fun x _ out wr => ∃ (k : Nat) (A2 : Option Addr) (c2 : Nat), k ≤ M ∧ x = .int .i64 k ∧ out = .slice A2 (diag C d k).length c2 ∧ Own wr V.heap.size wr.heap.size A2 (diag C d k).length c2 (diag C d k) ∧ Below V.heap.size V wr) (fun x _ _ _ => M - (intOf x).toNat)
    case atStart => exact ⟨0, none, 0, Nat.zero_le _, rfl, rfl, Own.none_ _ _ _, Below.refl _ _⟩
    case round =>
      obtain ⟨k, A2, c2, hk, rfl, rfl, hown, hbel⟩ := hrel
      have HO := Lib.hid hown
      have HL := Lib.hid hbel
      have sz : V.heap.size ≤ wr.heap.size := hbel.size
      have hlen := diag_len C d k
      obtain ⟨l, hl⟩ : ∃ l, diag C d k = l := ⟨_, rfl⟩
      rw [hl] at HO hlen
      rw [hl]
      have HLL := Lib.hid hl
      have hl48 : l.length ≤ 48 := by omega
      clear hl hown hbel
      have hr := HM.out
      by_cases hlt : k < M
      · obtain ⟨k0, k1, k2⟩ := K0.out.below HL.out s0
        have t0 : (k : Int) < (M : Int) := by omega
        rw [hr] at t0
        clear hr
        obtain ⟨z, hz⟩ : ∃ z, d.getD (k * C + k) 0 = z := ⟨_, rfl⟩
        have AT := Lib.hid (at_impl R C A n c d wr (H.out.into (D0.out.trans (HL.out.mono (by omega)))) (by have := HN.out; omega) k k _ (by rw [castM]; omega) (by rw [castM]; have := Nat.mul_le_mul_right C (show k ≤ R by omega); omega) (castI k C k) (by rw [HN.out]; exact ij_lt (by omega) (by omega)))
        rw [hz] at AT
        have Q := Lib.hid (show diag C d (k + 1) = l ++ [z] by rw [diag, HLL.out, hz])
        clear hz hlen
        go_wp2_with fail
        refine AT.out.mono ?_
        rintro e w6 ⟨rfl, hb6⟩
        have HL6 := Lib.hid (HL.out.trans (hb6.mono sz))
        have z6 : wr.heap.size ≤ w6.heap.size := hb6.size
        have HO6 := Lib.hid ((HO.out.below hb6 (Nat.le_refl _)).wide (lo' := V.heap.size) (hi' := w6.heap.size) (Nat.le_refl _) z6)
        have HOW := Lib.hid (HO6.out.al (Nat.le_refl _) (al1 w6 (Obj.cells #[.int .i64 z] 2))).1
        have HNW := Lib.hid (World.news_of_block (cs := #[.int .i64 z]) (t := 2) (fr := (0, 0)) (heap_alloc_new w6 _))
        clear hb6 k0 k1 k2
        go_wp2_with (at_builtin; refine wpList_append_lies _ rfl _ _ 24 rfl V.heap.size 2 i0 _ 1 8 Try.underlying24 HI.out.1 HI.out.2.1 HI.out.2.2.1 HI.out.2.2.2 rfl (by decide) (.slice A2 l.length c2) l.length (l.map (Value.int .i64)) rfl (by exact HOW.out) ⟨w6.heap.size, 0, none⟩ 1 1 [.int .i64 z] rfl rfl (by exact HNW.out) (by simp [Value.oneCell']) (by omega) (by unfold maxLen; omega) (by omega) (by simp <;> omega) (w6.heap.size + 1) (by simp) ?_; intro gg cap w7 hown7 hgrow hat hlt7; have P7 := Lib.hid (push_own HL6.out HO6.out hown7 hgrow hlt7); clear hown7 hgrow hat hlt7)
        have P8 := Lib.hid P7.out.1
        rw [← Q.out] at P8
        go_roundw
        case rel => exact ⟨k + 1, _, cap, by omega, by go_num, by rw [Q.out, List.length_append]; rfl, P8.out, P7.out.2⟩
        case measure => simp [intOf]; omega
      · have t0 : ¬ (k : Int) < (M : Int) := by omega
        rw [hr] at t0
        obtain rfl : k = M := by omega
        clear hr hlen
        go_wp2
        go_ret
        rw [HLL.out]
        exact ⟨A2, c2, rfl, HO.out.wide (by omega) (Nat.le_refl _), D0.out.trans (HL.out.mono (by omega))⟩

end Go.Proofs.Ytpojkahlllochaa
