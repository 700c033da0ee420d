/- The program's FormatGroup. No condition but those that each theorem names (the table of powers of ten reads as the program lays it). -/
import Derived.Test.YtgmkcmdnbfolhaaDoorNumE
import Derived.Test.YtgmkcmdnbfolhaaDoorNumK
import Derived.Laws.AppendOwn
import Derived.Laws.OwnMore
namespace Go.Proofs.YtgmkcmdnbfolhaaDoor
open Go.RowKit

abbrev sv (p : List UInt8) : Value := .string ⟨p.toArray⟩
theorem infoS : (Tryd.prog.info? 9).map (fun i => (i.zero, i.size, i.bytes)) = some (some (.string ⟨#[]⟩), 1, 16) := by kernel_rfl
/-- A slice of texts of the call's own. -/
def OwnS (w : World) (lo : Nat) (A : Option Addr) (c : Nat) (ps : List (List UInt8)) : Prop := w.ownsRow lo 9 1 (.slice A ps.length c) ps.length (ps.map sv)
theorem OwnS.none_ (w : World) (lo : Nat) : OwnS w lo none 0 [] := World.ownsRow_nil _ _ _ _

/-- A text is appended to a slice of the call's own. -/
theorem wpList_push_text {w : World} {ops : Array Oper} {rest : List Oper} {o : Oper} {a : Act} {Q : Exit → Act → World → Prop} (hgd : o.guard = none) (s x : Operand) (ho : o.op = .call { callee := .builtin .append, args := #[s, x], argTypes := #[47, 47] })
    (lo c g : Nat) (A : Option Addr) (ps : List (List UInt8)) (t : List UInt8) (hs : a.eval s = .slice A ps.length c) (hown : OwnS w lo A c ps) (hx : a.eval x = .slice (some ⟨g, 0, none⟩) 1 1) (hc : w.cell? ⟨g, 0, none⟩ = some (sv t)) (hlo : lo ≤ w.heap.size) (hlen : ps.length ≤ 1000)
    (h : ∀ A' c' w', OwnS w' lo A' c' (ps ++ [t]) → Below lo w w' → wpList Tryd.prog ops Q rest (a.put o.dst (.slice A' (ps.length + 1) c')) w') : wpList Tryd.prog ops Q (o :: rest) a w := by
  obtain ⟨ti, hi0, hz0, hz1, hz2⟩ := info_parts infoS
  refine wpList_append_own w hgd s x 47 ho lo 9 ti _ 1 16 Tryd.underlying47 hi0 hz0 hz1 hz2 rfl (by decide) (.slice A ps.length c) ps.length (ps.map sv) hs hown ⟨g, 0, none⟩ 1 1 [sv t] hx rfl
    (by intro j u hj; cases j with | zero => (simp at hj; subst hj; simpa [Addr.add] using hc) | succ j => simp at hj) (by intro u hu; simp at hu; subst hu; rfl) (by unfold maxLen; omega) (by omega) hlo ?_
  intro v' w' h1 hg _
  have hb : Below lo w w' := (Below.refl _ _).grown hg hlo (fun k hk => (hown.lt k hk).1)
  obtain ⟨g', cap, rfl, _⟩ := h1.form (by omega)
  refine h (some ⟨g', 0, none⟩) cap w' ?_ hb
  unfold OwnS
  rw [List.length_append, List.map_append]
  exact h1

theorem OwnS.keep {w w' : World} {lo c : Nat} {A : Option Addr} {ps : List (List UInt8)} (h : OwnS w lo A c ps) (hb : Below w.heap.size w w') : OwnS w' lo A c ps := by
  have ho : (Value.slice A ps.length c).ownBlock = none ∨ (Value.slice A ps.length c).ownBlock ≠ some w.heap.size := by
    cases hv : (Value.slice A ps.length c).ownBlock with
    | none => exact Or.inl rfl
    | some k =>
      have := (World.ownsRow.lt h k hv).2
      exact Or.inr (by simp; omega)
  exact World.ownsRow.kept (row := some w.heap.size) h ⟨hb.os, hb.tape, hb.output, hb.size, fun k hk _ => hb.block k hk⟩ ho
theorem join_text (lo c : Nat) (A : Option Addr) (ps : List (List UInt8)) (w : World) (h : OwnS w lo A c ps) (hne : ps ≠ []) (hlen : (Lib.join ps [32, 43, 32]).length ≤ 1000000) (hp : ps.length ≤ 1000) :
    Calls Tryd.prog 24 #[.slice A ps.length c, .string ⟨#[32, 43, 32]⟩] w (NumR w (Lib.join ps [32, 43, 32])) := by
  have hpos : 0 < ps.length := List.length_pos_iff.2 hne
  obtain ⟨g, hA, hcap⟩ : ∃ g, A = some ⟨g, 0, none⟩ ∧ ps.length ≤ c := by
    rcases h.2 with ⟨_, h0⟩ | ⟨g, cap, cur, hv, _, _, hn, _⟩
    · omega
    · injection hv with h1 h2 h3
      subst h3
      exact ⟨g, h1, hn⟩
  subst hA
  have hx : (ps.map fun p => (⟨p.toArray⟩ : ByteArray)).length = ps.length := List.length_map _
  have hm : ((ps.map fun p => (⟨p.toArray⟩ : ByteArray)).map (·.data.toList)) = ps := by
    rw [List.map_map]
    conv => rhs; rw [← List.map_id ps]
    apply List.map_congr_left
    intro p _
    rfl
  have hcells : ∀ (j : Nat) x, (ps.map fun p => (⟨p.toArray⟩ : ByteArray))[j]? = some x → w.cell? ⟨g, 0 + j, none⟩ = some (.string x) := by
    intro j x hj
    have hjl : j < ps.length := by
      have := (List.getElem?_eq_some_iff.1 hj).1
      rwa [hx] at this
    rw [Nat.zero_add, World.ownsRow.cellAt (by exact h) j (by omega), List.getElem?_map]
    rw [List.getElem?_map] at hj
    cases hq : ps[j]? with
    | none => rw [hq] at hj; simp at hj
    | some q =>
      rw [hq] at hj
      simp at hj
      subst hj
      rfl
  have hbk : g < w.heap.size := (World.ownsRow.lt h g rfl).2
  have := Tryd.strings_Join g 0 c (ps.map fun p => (⟨p.toArray⟩ : ByteArray)) ⟨#[32, 43, 32]⟩ w hcells hbk (by rw [hx]; omega) (by rw [hx]; omega) (by rw [hm]; show (Lib.join ps [32, 43, 32]).length ≤ _; omega)
  rw [hm, hx] at this
  exact this

/-- The parts of a group's text: its free part, if there is one, and the first k torsion numbers. -/
def freePart (r : Int) : List (List UInt8) := if r = 1 then [[90]] else if 1 < r then [90 :: 94 :: Lib.itoa r] else []
def partsUpTo (h : List (List UInt8)) (ts : List Int) : Nat → List (List UInt8)
  | 0 => h
  | k + 1 => partsUpTo h ts k ++ [90 :: 95 :: Lib.itoa (ts.getD k 0)]
theorem partsUpTo_len (h : List (List UInt8)) (ts : List Int) (k : Nat) : (partsUpTo h ts k).length = h.length + k := by
  induction k with
  | zero => rfl
  | succ k ih => rw [partsUpTo, List.length_append, ih]; rfl
theorem join_snoc (ps : List (List UInt8)) (t sep : List UInt8) : Lib.join (ps ++ [t]) sep = (if ps = [] then [] else Lib.join ps sep ++ sep) ++ t := by
  cases ps with
  | nil => simp [Lib.join_one]
  | cons x r =>
    rw [List.cons_append, Lib.join_cons, Lib.join_cons, if_neg (by simp)]
    simp [Lib.joinTail]
/-- No part is empty, so the joined text is empty only without parts. -/
theorem join_ne {ps : List (List UInt8)} (sep : List UInt8) (h : ∀ p ∈ ps, p ≠ []) (hp : ps ≠ []) : Lib.join ps sep ≠ [] := by
  cases ps with
  | nil => exact absurd rfl hp
  | cons x r =>
    rw [Lib.join_cons]
    have := h x (by simp)
    intro e
    exact this (List.append_eq_nil_iff.1 e).1
theorem freePart_ne (r : Int) : ∀ p ∈ freePart r, p ≠ [] := by
  unfold freePart
  intro p hp
  split at hp
  · simp at hp; subst hp; simp
  · split at hp
    · simp at hp; subst hp; simp
    · simp at hp
theorem partsUpTo_ne (r : Int) (ts : List Int) (k : Nat) : ∀ p ∈ partsUpTo (freePart r) ts k, p ≠ [] := by
  induction k with
  | zero => exact freePart_ne r
  | succ k ih =>
    intro p hp
    rw [partsUpTo, List.mem_append] at hp
    rcases hp with hp | hp
    · exact ih p hp
    · simp at hp; subst hp; simp
theorem join_free (r : Int) (sep : List UInt8) : Lib.join (freePart r) sep = freeText r := by
  unfold freePart freeText
  split
  · exact Lib.join_one _ _
  · split
    · exact Lib.join_one _ _
    · rfl
theorem join_parts (r : Int) (ts : List Int) (k : Nat) : Lib.join (partsUpTo (freePart r) ts k) [32, 43, 32] = groupUpTo (freeText r) ts k := by
  induction k with
  | zero => exact join_free r _
  | succ k ih =>
    rw [partsUpTo, join_snoc, groupUpTo, ih]
    by_cases hp : partsUpTo (freePart r) ts k = []
    · rw [if_pos hp, if_pos (by rw [← ih, hp]; rfl)]
    · rw [if_neg hp, if_neg (by rw [← ih]; exact join_ne _ (partsUpTo_ne r ts k) hp)]

set_option maxRecDepth 100000 in
theorem formatG_impl_no (r : Int) (A : Option Addr) (n c : Nat) (ts : List Int) (w : World) (h : Ints w w.heap.size A n ts) (hn : n ≤ 1048576) (hP : ¬ AOk r ts) :
    Calls Tryd.prog 8 #[.agg #[.int .i64 r, .slice A n c]] w (NumR w []) := by
  have IM := Lib.hid ((isA_impl r A n c ts (w.alloc (Obj.cells #[.int .i64 r, .slice A n c] 27)) (h.into (al1 _ _)) hn).mono fun _ _ h => h.no hP)
  clear h hP
  go_enter Tryd.func8, Tryd.ntmps8
  go_wp2_with fail
  refine IM.out.mono ?_
  rintro e w1 ⟨rfl, hb⟩
  go_wp2_with fail
  go_ret
  exact ⟨rfl, on1 _ hb⟩

/-- The state in which the torsion numbers are begun: the free part lies in a slice. -/
def Begun (w1 : World) (ps : List (List UInt8)) (y : Value) (W : World) : Prop := ∃ A c, y = .slice A ps.length c ∧ OwnS W w1.heap.size A c ps ∧ Below w1.heap.size w1 W

set_option maxRecDepth 100000 in
set_option maxHeartbeats 8000000 in
theorem formatG_impl (r : Int) (A : Option Addr) (n c : Nat) (ts : List Int) (w : World) (h : Ints w w.heap.size A n ts) (hn : n ≤ 1048576) (hP : AOk r ts) (ht : Tab w) :
    Calls Tryd.prog 8 #[.agg #[.int .i64 r, .slice A n c]] w (NumR w (groupText r ts)) := by
  obtain ⟨r0, r1, hlen, hz, _⟩ := id hP
  have BL := groupUpTo_len (freeText r) ts hz
  have FL := freeText_len r r0 r1
  have HZ := Lib.hid hz
  have HL := Lib.hid h.1
  have H := Lib.hid h
  have T := Lib.hid ht
  have n48 : n ≤ 48 := by have := h.1; omega
  have IM := Lib.hid ((isA_impl r A n c ts (w.alloc (Obj.cells #[.int .i64 r, .slice A n c] 27)) (h.into (al1 _ _)) hn).mono fun _ _ h => h.yes hP)
  have K0 := Lib.hid (BoxG.new w 27 (.int .i64 r) (.slice A n c))
  have QR := Lib.hid (fun w => format_int r (by omega) (by omega) w)
  have lr := itoa_len r (by omega) (by omega)
  have PN := Lib.hid (fun k => partsUpTo_ne r ts k)
  have PJ := Lib.hid (fun k => join_parts r ts k)
  have PL := Lib.hid (fun k => partsUpTo_len (freePart r) ts k)
  have F1 : (freePart r).length ≤ 1 := by unfold freePart; split <;> (try split) <;> simp
  obtain ⟨s0, hs0⟩ : ∃ s0, freePart r = s0 := ⟨_, rfl⟩
  have HS := Lib.hid hs0
  rw [hs0] at PN PJ PL F1
  obtain ⟨g, hg⟩ : ∃ g, groupText r ts = g := ⟨_, rfl⟩
  have HG := Lib.hid (show g = if groupUpTo (freeText r) ts ts.length = [] then [48] else groupUpTo (freeText r) ts ts.length by rw [← hg, groupText])
  rw [hg]
  clear hz h hP ht hg hs0
  rcases (show r = 0 ∨ r = 1 ∨ 1 < r by omega) with hr | hr | hr
  · subst hr
    have HF := Lib.hid (show s0 = [] by rw [← HS.out]; rfl)
    clear HS
    go_enter Tryd.func8, Tryd.ntmps8
    go_wp2_with fail
    refine IM.out.mono ?_
    rintro e w1 ⟨rfl, hb⟩
    have z1 : w.heap.size < w1.heap.size := by have := hb.size; simp at this; omega
    have K1 := Lib.hid (K0.out.below hb (by simp))
    have HB := Lib.hid (on1 _ hb)
    clear hb K0
    obtain ⟨k0, k1⟩ := K1.out
    have CB := Lib.hid (Below.refl w1.heap.size w1)
    have N0 := Lib.hid (OwnS.none_ w1 w1.heap.size)
    go_wp2_with fail
    go_loopw [28, 3] (fun x y wr => ∃ k : Nat, k ≤ n ∧ x = .int .i64 k ∧ Begun w1 (partsUpTo s0 ts k) y wr) (fun x _ _ => n - (intOf x).toNat)
    case atStart =>
      refine ⟨0, Nat.zero_le _, rfl, ?_⟩
      rw [partsUpTo, HF.out]
      first
        | exact ⟨none, 0, rfl, N0.out, CB.out⟩
    case round =>
      obtain ⟨k, hk, rfl, A2, c2, rfl, hown, hbel⟩ := hrel
      have pl := Lib.hid (PL.out k)
      have pj := Lib.hid (PJ.out k)
      have pn := Lib.hid (PN.out k)
      have lk := BL k (by have := HL.out; omega)
      obtain ⟨ps, hps⟩ : ∃ ps, partsUpTo s0 ts k = ps := ⟨_, rfl⟩
      rw [hps] at pl pj pn hown
      rw [hps]
      have HPS := Lib.hid hps
      have L := Lib.hid hbel
      have O := Lib.hid hown
      have nL := HL.out
      have zr : w1.heap.size ≤ wr.heap.size := hbel.size
      have HBr := Lib.hid (HB.out.trans (L.out.mono HB.out.size))
      obtain ⟨c0, c1⟩ := K1.out.below L.out z1
      clear hps hbel hown
      by_cases hlt : k < n
      · have t0 : (k : Int) < (n : Int) := by omega
        have t1 : (0 : Int) ≤ (k : Int) := by omega
        obtain ⟨b, off, z, rfl, hblt, hzk, cz⟩ := (H.out.below HBr.out).at_z hlt
        obtain ⟨z0, z2⟩ := HZ.out k (by omega)
        rw [hzk] at z0 z2
        have lz := itoa_len z (by omega) (by omega)
        have N := Lib.hid (fun w => format_int z (by omega) (by omega) w)
        have Q := Lib.hid (show partsUpTo s0 ts (k + 1) = ps ++ [90 :: 95 :: Lib.itoa z] by rw [partsUpTo, HPS.out, hzk])
        obtain ⟨t, ht⟩ : ∃ t, Lib.itoa z = t := ⟨_, rfl⟩
        rw [ht] at Q N lz
        have A1 := fun w => add_run w [90, 95] t (by simp) (by omega)
        clear ht hzk nL
        go_wp2_with fail
        refine (N.out _ (T.out.keep HBr.out)).mono ?_
        rintro e w6 ⟨rfl, hb⟩
        have z6 : w1.heap.size ≤ w6.heap.size := by have := hb.size; omega
        have O6 := Lib.hid (O.out.keep hb)
        have L6 := Lib.hid (L.out.trans (hb.mono zr))
        clear hb
        go_wp2_with (at_builtin; refine wpList_push_text rfl _ _ rfl w1.heap.size c2 w6.heap.size A2 ps (90 :: 95 :: t) rfl (O6.out.alloc _) rfl (by exact alloc_first _ _ _ _ rfl) (by simp <;> omega) (by have := pl.out; omega) ?_; intro A7 c7 w7 h5 h6; have O7 := Lib.hid h5; have C7 := Lib.hid ((L6.out.alloc z6 _).trans h6); clear h5 h6)
        go_roundw
        case rel => exact ⟨k + 1, by omega, by go_num, A7, c7, by rw [Q.out, List.length_append]; rfl, by rw [Q.out]; exact O7.out, C7.out⟩
        case measure => simp [intOf]; omega
      · have t0 : ¬ (k : Int) < (n : Int) := by omega
        obtain rfl : n = k := by omega
        have HG2 := Lib.hid (show g = if Lib.join ps [32, 43, 32] = [] then [48] else Lib.join ps [32, 43, 32] by rw [HG.out, HL.out, pj.out])
        by_cases hne : ps = []
        · subst hne
          clear hlt nL
          go_wp2_with fail
          go_ret
          refine ⟨?_, HBr.out⟩
          have hg : g = [48] := by rw [HG2.out]; rfl
          rw [hg]
          rfl
        · have hj := join_ne [32, 43, 32] pn.out hne
          have hl : (Lib.join ps [32, 43, 32]).length ≤ 1000000 := by rw [pj.out]; omega
          have J := Lib.hid (fun W h => join_text w1.heap.size c2 A2 ps W h hne hl (by have := pl.out; omega))
          have HG3 := Lib.hid (show g = Lib.join ps [32, 43, 32] by rw [HG2.out, if_neg hj])
          have hp0 : ((ps.length : Int) == 0) = false := by have := List.length_pos_iff.2 hne; simp; omega
          clear hlt nL hj hl hne
          go_wp2_with fail
          refine (J.out _ O.out).mono ?_
          rintro e w6 ⟨rfl, hb⟩
          go_wp2_with fail
          go_ret
          exact ⟨by rw [HG3.out]; rfl, HBr.out.trans (hb.mono HBr.out.size)⟩
  · subst hr
    have HF := Lib.hid (show s0 = [[90]] by rw [← HS.out]; rfl)
    clear HS
    go_enter Tryd.func8, Tryd.ntmps8
    go_wp2_with fail
    refine IM.out.mono ?_
    rintro e w1 ⟨rfl, hb⟩
    have z1 : w.heap.size < w1.heap.size := by have := hb.size; simp at this; omega
    have K1 := Lib.hid (K0.out.below hb (by simp))
    have HB := Lib.hid (on1 _ hb)
    clear hb K0
    obtain ⟨k0, k1⟩ := K1.out
    have CB := Lib.hid (Below.refl w1.heap.size w1)
    have N0 := Lib.hid (OwnS.none_ w1 w1.heap.size)
    go_wp2_with (at_builtin; refine wpList_push_text rfl _ _ rfl w1.heap.size 0 w1.heap.size none [] [90] rfl (N0.out.alloc _) rfl (by exact alloc_first _ _ _ _ rfl) (by simp) (by simp) ?_; intro A5 c5 w5 h5 h6; have O5 := Lib.hid h5; have h7 : Below w1.heap.size w1 w5 := (al1 w1 _).trans h6; have C5 := Lib.hid h7; obtain ⟨k3, k4⟩ := K1.out.below h7 z1; clear h5 h6 h7)
    go_loopw [28, 3] (fun x y wr => ∃ k : Nat, k ≤ n ∧ x = .int .i64 k ∧ Begun w1 (partsUpTo s0 ts k) y wr) (fun x _ _ => n - (intOf x).toNat)
    case atStart =>
      refine ⟨0, Nat.zero_le _, rfl, ?_⟩
      rw [partsUpTo, HF.out]
      first
        | exact ⟨A5, c5, rfl, O5.out, C5.out⟩
    case round =>
      obtain ⟨k, hk, rfl, A2, c2, rfl, hown, hbel⟩ := hrel
      have pl := Lib.hid (PL.out k)
      have pj := Lib.hid (PJ.out k)
      have pn := Lib.hid (PN.out k)
      have lk := BL k (by have := HL.out; omega)
      obtain ⟨ps, hps⟩ : ∃ ps, partsUpTo s0 ts k = ps := ⟨_, rfl⟩
      rw [hps] at pl pj pn hown
      rw [hps]
      have HPS := Lib.hid hps
      have L := Lib.hid hbel
      have O := Lib.hid hown
      have nL := HL.out
      have zr : w1.heap.size ≤ wr.heap.size := hbel.size
      have HBr := Lib.hid (HB.out.trans (L.out.mono HB.out.size))
      obtain ⟨c0, c1⟩ := K1.out.below L.out z1
      clear hps hbel hown
      by_cases hlt : k < n
      · have t0 : (k : Int) < (n : Int) := by omega
        have t1 : (0 : Int) ≤ (k : Int) := by omega
        obtain ⟨b, off, z, rfl, hblt, hzk, cz⟩ := (H.out.below HBr.out).at_z hlt
        obtain ⟨z0, z2⟩ := HZ.out k (by omega)
        rw [hzk] at z0 z2
        have lz := itoa_len z (by omega) (by omega)
        have N := Lib.hid (fun w => format_int z (by omega) (by omega) w)
        have Q := Lib.hid (show partsUpTo s0 ts (k + 1) = ps ++ [90 :: 95 :: Lib.itoa z] by rw [partsUpTo, HPS.out, hzk])
        obtain ⟨t, ht⟩ : ∃ t, Lib.itoa z = t := ⟨_, rfl⟩
        rw [ht] at Q N lz
        have A1 := fun w => add_run w [90, 95] t (by simp) (by omega)
        clear ht hzk nL
        go_wp2_with fail
        refine (N.out _ (T.out.keep HBr.out)).mono ?_
        rintro e w6 ⟨rfl, hb⟩
        have z6 : w1.heap.size ≤ w6.heap.size := by have := hb.size; omega
        have O6 := Lib.hid (O.out.keep hb)
        have L6 := Lib.hid (L.out.trans (hb.mono zr))
        clear hb
        go_wp2_with (at_builtin; refine wpList_push_text rfl _ _ rfl w1.heap.size c2 w6.heap.size A2 ps (90 :: 95 :: t) rfl (O6.out.alloc _) rfl (by exact alloc_first _ _ _ _ rfl) (by simp <;> omega) (by have := pl.out; omega) ?_; intro A7 c7 w7 h5 h6; have O7 := Lib.hid h5; have C7 := Lib.hid ((L6.out.alloc z6 _).trans h6); clear h5 h6)
        go_roundw
        case rel => exact ⟨k + 1, by omega, by go_num, A7, c7, by rw [Q.out, List.length_append]; rfl, by rw [Q.out]; exact O7.out, C7.out⟩
        case measure => simp [intOf]; omega
      · have t0 : ¬ (k : Int) < (n : Int) := by omega
        obtain rfl : n = k := by omega
        have HG2 := Lib.hid (show g = if Lib.join ps [32, 43, 32] = [] then [48] else Lib.join ps [32, 43, 32] by rw [HG.out, HL.out, pj.out])
        by_cases hne : ps = []
        · subst hne
          clear hlt nL
          go_wp2_with fail
          go_ret
          refine ⟨?_, HBr.out⟩
          have hg : g = [48] := by rw [HG2.out]; rfl
          rw [hg]
          rfl
        · have hj := join_ne [32, 43, 32] pn.out hne
          have hl : (Lib.join ps [32, 43, 32]).length ≤ 1000000 := by rw [pj.out]; omega
          have J := Lib.hid (fun W h => join_text w1.heap.size c2 A2 ps W h hne hl (by have := pl.out; omega))
          have HG3 := Lib.hid (show g = Lib.join ps [32, 43, 32] by rw [HG2.out, if_neg hj])
          have hp0 : ((ps.length : Int) == 0) = false := by have := List.length_pos_iff.2 hne; simp; omega
          clear hlt nL hj hl hne
          go_wp2_with fail
          refine (J.out _ O.out).mono ?_
          rintro e w6 ⟨rfl, hb⟩
          go_wp2_with fail
          go_ret
          exact ⟨by rw [HG3.out]; rfl, HBr.out.trans (hb.mono HBr.out.size)⟩
  · have e1 : (r == 1) = false := by simp; omega
    have HF := Lib.hid (show s0 = [90 :: 94 :: Lib.itoa r] by rw [← HS.out, freePart, if_neg (by omega), if_pos hr])
    obtain ⟨a, ha⟩ : ∃ a, Lib.itoa r = a := ⟨_, rfl⟩
    rw [ha] at QR HF lr
    have A0 := fun w => add_run w [90, 94] a (by simp) (by omega)
    clear ha
    clear HS
    go_enter Tryd.func8, Tryd.ntmps8
    go_wp2_with fail
    refine IM.out.mono ?_
    rintro e w1 ⟨rfl, hb⟩
    have z1 : w.heap.size < w1.heap.size := by have := hb.size; simp at this; omega
    have K1 := Lib.hid (K0.out.below hb (by simp))
    have HB := Lib.hid (on1 _ hb)
    clear hb K0
    obtain ⟨k0, k1⟩ := K1.out
    have CB := Lib.hid (Below.refl w1.heap.size w1)
    have N0 := Lib.hid (OwnS.none_ w1 w1.heap.size)
    go_wp2_with fail
    refine (QR.out _ (T.out.keep HB.out)).mono ?_
    rintro e w4 ⟨rfl, hb4⟩
    have C4 := Lib.hid hb4
    have N4 := Lib.hid (OwnS.none_ w4 w1.heap.size)
    have z4 : w1.heap.size ≤ w4.heap.size := hb4.size
    clear hb4
    go_wp2_with (at_builtin; refine wpList_push_text rfl _ _ rfl w1.heap.size 0 w4.heap.size none [] (90 :: 94 :: a) rfl (N4.out.alloc _) rfl (by exact alloc_first _ _ _ _ rfl) (by simp <;> omega) (by simp) ?_; intro A5 c5 w5 h5 h6; have O5 := Lib.hid h5; have h7 : Below w1.heap.size w1 w5 := (C4.out.alloc z4 _).trans h6; have C5 := Lib.hid h7; obtain ⟨k3, k4⟩ := K1.out.below h7 z1; clear h5 h6 h7)
    go_loopw [28, 3] (fun x y wr => ∃ k : Nat, k ≤ n ∧ x = .int .i64 k ∧ Begun w1 (partsUpTo s0 ts k) y wr) (fun x _ _ => n - (intOf x).toNat)
    case atStart =>
      refine ⟨0, Nat.zero_le _, rfl, ?_⟩
      rw [partsUpTo, HF.out]
      first
        | exact ⟨A5, c5, rfl, O5.out, C5.out⟩
    case round =>
      obtain ⟨k, hk, rfl, A2, c2, rfl, hown, hbel⟩ := hrel
      have pl := Lib.hid (PL.out k)
      have pj := Lib.hid (PJ.out k)
      have pn := Lib.hid (PN.out k)
      have lk := BL k (by have := HL.out; omega)
      obtain ⟨ps, hps⟩ : ∃ ps, partsUpTo s0 ts k = ps := ⟨_, rfl⟩
      rw [hps] at pl pj pn hown
      rw [hps]
      have HPS := Lib.hid hps
      have L := Lib.hid hbel
      have O := Lib.hid hown
      have nL := HL.out
      have zr : w1.heap.size ≤ wr.heap.size := hbel.size
      have HBr := Lib.hid (HB.out.trans (L.out.mono HB.out.size))
      obtain ⟨c0, c1⟩ := K1.out.below L.out z1
      clear hps hbel hown
      by_cases hlt : k < n
      · have t0 : (k : Int) < (n : Int) := by omega
        have t1 : (0 : Int) ≤ (k : Int) := by omega
        obtain ⟨b, off, z, rfl, hblt, hzk, cz⟩ := (H.out.below HBr.out).at_z hlt
        obtain ⟨z0, z2⟩ := HZ.out k (by omega)
        rw [hzk] at z0 z2
        have lz := itoa_len z (by omega) (by omega)
        have N := Lib.hid (fun w => format_int z (by omega) (by omega) w)
        have Q := Lib.hid (show partsUpTo s0 ts (k + 1) = ps ++ [90 :: 95 :: Lib.itoa z] by rw [partsUpTo, HPS.out, hzk])
        obtain ⟨t, ht⟩ : ∃ t, Lib.itoa z = t := ⟨_, rfl⟩
        rw [ht] at Q N lz
        have A1 := fun w => add_run w [90, 95] t (by simp) (by omega)
        clear ht hzk nL
        go_wp2_with fail
        refine (N.out _ (T.out.keep HBr.out)).mono ?_
        rintro e w6 ⟨rfl, hb⟩
        have z6 : w1.heap.size ≤ w6.heap.size := by have := hb.size; omega
        have O6 := Lib.hid (O.out.keep hb)
        have L6 := Lib.hid (L.out.trans (hb.mono zr))
        clear hb
        go_wp2_with (at_builtin; refine wpList_push_text rfl _ _ rfl w1.heap.size c2 w6.heap.size A2 ps (90 :: 95 :: t) rfl (O6.out.alloc _) rfl (by exact alloc_first _ _ _ _ rfl) (by simp <;> omega) (by have := pl.out; omega) ?_; intro A7 c7 w7 h5 h6; have O7 := Lib.hid h5; have C7 := Lib.hid ((L6.out.alloc z6 _).trans h6); clear h5 h6)
        go_roundw
        case rel => exact ⟨k + 1, by omega, by go_num, A7, c7, by rw [Q.out, List.length_append]; rfl, by rw [Q.out]; exact O7.out, C7.out⟩
        case measure => simp [intOf]; omega
      · have t0 : ¬ (k : Int) < (n : Int) := by omega
        obtain rfl : n = k := by omega
        have HG2 := Lib.hid (show g = if Lib.join ps [32, 43, 32] = [] then [48] else Lib.join ps [32, 43, 32] by rw [HG.out, HL.out, pj.out])
        by_cases hne : ps = []
        · subst hne
          clear hlt nL
          go_wp2_with fail
          go_ret
          refine ⟨?_, HBr.out⟩
          have hg : g = [48] := by rw [HG2.out]; rfl
          rw [hg]
          rfl
        · have hj := join_ne [32, 43, 32] pn.out hne
          have hl : (Lib.join ps [32, 43, 32]).length ≤ 1000000 := by rw [pj.out]; omega
          have J := Lib.hid (fun W h => join_text w1.heap.size c2 A2 ps W h hne hl (by have := pl.out; omega))
          have HG3 := Lib.hid (show g = Lib.join ps [32, 43, 32] by rw [HG2.out, if_neg hj])
          have hp0 : ((ps.length : Int) == 0) = false := by have := List.length_pos_iff.2 hne; simp; omega
          clear hlt nL hj hl hne
          go_wp2_with fail
          refine (J.out _ O.out).mono ?_
          rintro e w6 ⟨rfl, hb⟩
          go_wp2_with fail
          go_ret
          exact ⟨by rw [HG3.out]; rfl, HBr.out.trans (hb.mono HBr.out.size)⟩

end Go.Proofs.YtgmkcmdnbfolhaaDoor
