/- A row taken out of a slice of slices: the library's Delete. No condition but those that each theorem names. -/
import Derived.Test.YtjommpdblbbkdaaSsC
import Derived.Shelf.RegionOpenPlain
namespace Go.Proofs.Ytjommpdblbbkdaa
open Go.RowKit

/-- Values stored from place o on. -/
def putV : List Value → Nat → List Value → List Value
  | l, _, [] => l
  | l, o, x :: r => putV (l.set o x) (o + 1) r
theorem putV_eq : ∀ (vs l : List Value) (o : Nat), o + vs.length ≤ l.length → putV l o vs = l.take o ++ vs ++ l.drop (o + vs.length)
  | [], l, o, _ => by simp [putV]
  | x :: r, l, o, h => by
    simp only [List.length_cons] at h
    rw [putV, putV_eq r (l.set o x) (o + 1) (by simp; omega)]
    have h1 : (l.set o x).take (o + 1) = l.take o ++ [x] := by
      rw [List.take_set, List.take_succ_eq_append_getElem (by omega)]
      rw [List.set_append_right _ _ (by simp; omega)]
      have : o - (l.take o).length = 0 := by simp; omega
      rw [this]
      rfl
    have h2 : (l.set o x).drop (o + 1 + r.length) = l.drop (o + 1 + r.length) := by
      rw [List.drop_set_of_lt (by omega)]
    rw [h1, h2, List.length_cons, show o + (r.length + 1) = o + 1 + r.length by omega]
    simp
theorem ownsRow_setCells {lo g n c : Nat} {e : TypeId} : ∀ (vs : List Value) (o : Nat) (w : World) (xs : List Value), w.ownsRow lo e 1 (.slice (some ⟨g, 0, none⟩) n c) n xs → (w.setCells g o vs).ownsRow lo e 1 (.slice (some ⟨g, 0, none⟩) n c) n (putV xs o vs)
  | [], _, _, _, h => h
  | x :: r, o, _, _, h => ownsRow_setCells r (o + 1) _ _ (h.stored o x).1
theorem ownsRow_part {w : World} {lo g n c m : Nat} {e : TypeId} {xs : List Value} (h : w.ownsRow lo e 1 (.slice (some ⟨g, 0, none⟩) n c) n xs) (hm : m ≤ n) : w.ownsRow lo e 1 (.slice (some ⟨g, 0, none⟩) m c) m (xs.take m) := by
  have hl := h.1
  refine ⟨by rw [List.length_take, hl]; omega, ?_⟩
  rcases h.2 with ⟨h0, _⟩ | ⟨g', cap, cur, hv, hb, hg, h1, h2, h3, h4⟩
  · injection h0 with h0; cases h0
  · injection hv with e1 e2 e3
    subst e3
    refine .inr ⟨g', c, cur, by rw [e1], hb, hg, by omega, h2, h3, ?_⟩
    have : cur.toList.take (m * 1) = (cur.toList.take (n * 1)).take (m * 1) := by rw [List.take_take]; congr 1; omega
    rw [this, h4, Nat.mul_one]
theorem setCells_other {g k : Nat} (hk : k ≠ g) : ∀ (vs : List Value) (o : Nat) (w : World), (w.setCells g o vs).heap[k]? = w.heap[k]?
  | [], _, _ => rfl
  | v :: r, o, w => (setCells_other hk r (o + 1) _).trans (Below.heap_setCell w ⟨g, o, none⟩ v k hk)
theorem setCells_size (g : Nat) : ∀ (vs : List Value) (o : Nat) (w : World), (w.setCells g o vs).heap.size = w.heap.size
  | [], _, _ => rfl
  | v :: r, o, w => (setCells_size g r (o + 1) _).trans (by simp [World.setCell])
theorem Rw.In.other {w w' : World} {lo hi g : Nat} {r : Rw} (h : r.In w lo hi) (ho : r.Off g) (hk : ∀ k, k ≠ g → w'.heap[k]? = w.heap[k]?) : r.In w' lo hi :=
  ⟨h.le, h.cap, h.mine.1, fun h0 => by
    obtain ⟨b, off, e, h1, h2, h3⟩ := h.mine.2 h0
    have hb := hk b (ho _ e h0)
    exact ⟨b, off, e, h1, h2, fun j hj => ⟨(World.cell?_of_block (a := ⟨b, off + j, none⟩) hb).trans (h3 j hj).1, (World.frozen?_of_block (a := ⟨b, off + j, none⟩) hb).trans (h3 j hj).2⟩⟩⟩
theorem setCells_heap (g : Nat) : ∀ (vs : List Value) (o : Nat) (w w' : World), w.heap = w'.heap → (w.setCells g o vs).heap = (w'.setCells g o vs).heap
  | [], _, _, _, h => h
  | v :: r, o, w, w', h => setCells_heap g r (o + 1) _ _ (by simp [World.setCell, h])
theorem OwnS.of_heap {w w' : World} {lo hi c : Nat} {A : Option Addr} {rs : List Rw} (h : OwnS w lo hi A c rs) (e : w'.heap = w.heap) : OwnS w' lo hi A c rs := h.keep fun k _ _ => by rw [e]
theorem setCells_same (g : Nat) : ∀ (vs : List Value) (o : Nat) (w w' : World), w.heap = w'.heap → (w.setCells g o vs).heap[g]? = (w'.setCells g o vs).heap[g]?
  | [], _, _, _, h => by rw [World.setCells, World.setCells, h]
  | v :: r, o, w, w', h => setCells_same g r (o + 1) _ _ (by simp [World.setCell, h])
/-- What the two stores of a deletion leave. -/
theorem OwnS.deleted {w : World} {lo hi g c i : Nat} {rs : List Rw} (h : OwnS w lo hi (some ⟨g, 0, none⟩) c rs) (hi' : i < rs.length) :
    OwnS ((w.setCells g i ((rs.drop (i + 1)).map Rw.sv)).setCells g (rs.length - 1) [.slice none 0 0]) lo hi (some ⟨g, 0, none⟩) c (rs.eraseIdx i) := by
  have hother : ∀ k, k ≠ g → ((w.setCells g i ((rs.drop (i + 1)).map Rw.sv)).setCells g (rs.length - 1) [.slice none 0 0]).heap[k]? = w.heap[k]? := fun k hk => by
    rw [setCells_other hk, setCells_other hk]
  have hlen : (rs.eraseIdx i).length = rs.length - 1 := List.length_eraseIdx_of_lt hi'
  have hsub := List.eraseIdx_sublist rs i
  refine ⟨?_, h.top, fun q hq => ?_, fun q hq => h.off q (hsub.subset hq), h.apart.sublist hsub⟩
  · have h2 := ownsRow_part (ownsRow_setCells [.slice none 0 0] (rs.length - 1) _ _ (ownsRow_setCells ((rs.drop (i + 1)).map Rw.sv) i w _ h.row)) (show rs.length - 1 ≤ rs.length by omega)
    have e : (putV (putV (rs.map Rw.sv) i ((rs.drop (i + 1)).map Rw.sv)) (rs.length - 1) [.slice none 0 0]).take (rs.length - 1) = (rs.eraseIdx i).map Rw.sv := by
      have hd : ((rs.drop (i + 1)).map Rw.sv).length = rs.length - (i + 1) := by simp
      rw [putV_eq _ (rs.map Rw.sv) i (by rw [hd, List.length_map]; omega)]
      simp only [putV]
      rw [List.take_set_of_le (Nat.le_refl _), List.take_append_of_le_length (by simp; omega), List.take_of_length_le (by simp; omega), List.eraseIdx_eq_take_drop_succ, List.map_append, List.map_take]
    rw [hlen]
    rw [e] at h2
    exact h2
  · have hq' := hsub.subset hq
    exact (h.mine q hq').other (h.off q hq' _ rfl) hother
theorem OwnS.deleted_kept {w : World} {lo hi g : Nat} (h1 : lo ≤ g) (h2 : g < hi) (vs us : List Value) (o p : Nat) : Kept lo hi w ((w.setCells g o vs).setCells g p us) :=
  have key : ∀ (vs : List Value) (o : Nat) (w0 w : World), Kept lo hi w0 w → Kept lo hi w0 (w.setCells g o vs) := fun vs => by
    induction vs with
    | nil => intro o w0 w h; exact h
    | cons v r ih => intro o w0 w h; exact ih (o + 1) w0 _ (h.set_ (p := ⟨g, o, none⟩) h1 h2 v)
  key us p _ _ (key vs o _ _ (Kept.refl _ _ _))

set_option maxRecDepth 1000000 in
set_option maxHeartbeats 4000000 in
theorem delete_any (g c i : Nat) (rs : List Rw) (lo hi : Nat) (w : World) (h : OwnS w lo hi (some ⟨g, 0, none⟩) c rs) (hi' : i < rs.length) (hn : rs.length ≤ 1048576) :
    Calls Try.prog 69 #[.slice (some ⟨g, 0, none⟩) rs.length c, .int .i64 i, .int .i64 ((i : Int) + 1)] w fun e w' => e = .returned (.slice (some ⟨g, 0, none⟩) (rs.length - 1) c) ∧ OwnS w' lo hi (some ⟨g, 0, none⟩) c (rs.eraseIdx i) ∧ Kept lo hi w w' := by
  obtain ⟨i0, hi0, hz0, hz1, hz2⟩ := info_parts infoS
  obtain ⟨hcap, hcm⟩ := h.cap
  unfold maxLen at hcm
  obtain ⟨g', e', g1, g2, gc⟩ := h.at_ (by omega)
  cases e'
  have DEL := Lib.hid (h.deleted hi')
  have KEPT := Lib.hid (OwnS.deleted_kept (w := w) g1 g2 ((rs.drop (i + 1)).map Rw.sv) [.slice none 0 0] i (rs.length - 1))
  obtain ⟨n, hrn⟩ : ∃ n, rs.length = n := ⟨_, rfl⟩
  have HN := Lib.hid hrn
  obtain ⟨news, hnews⟩ : ∃ news, news = (rs.drop (i + 1)).map Rw.sv := ⟨_, rfl⟩
  have s1 := Lib.hid (show news.length = (n - (i + 1)) * 1 from by rw [Nat.mul_one, hnews, ← hrn]; simp)
  have s2 := Lib.hid (show ∀ u ∈ news, u.oneCell' = true from (by
    intro u hu
    rw [hnews] at hu
    obtain ⟨x, _, rfl⟩ := List.mem_map.1 hu
    rfl))
  have s3 := Lib.hid (show ∀ t, t < news.length → (w.drew.cell? ⟨g, 0 + i * 1 + t, none⟩).isSome = true ∧ w.drew.frozen? ⟨g, 0 + i * 1 + t, none⟩ = false from (by
    intro t ht
    rw [hnews] at ht
    simp at ht
    have := gc (i + t) (by omega)
    rw [Nat.mul_one, Nat.zero_add]
    exact ⟨by show (w.cell? _).isSome = true; rw [this.1]; rfl, this.2⟩))
  obtain ⟨A, hA, hsrc⟩ : ∃ A : Addr, (if c = i + 1 then some (⟨g, 0, none⟩ : Addr) else some ⟨g, i + 1, none⟩) = some A ∧ ∀ t u, news[t]? = some u → w.drew.cell? (A.add t) = some u := by
    by_cases hc : c = i + 1
    · refine ⟨⟨g, 0, none⟩, by simp [hc], fun t u hu => ?_⟩
      have h0 : news = [] := by rw [hnews, List.drop_of_length_le (by omega)]; rfl
      rw [h0] at hu
      simp at hu
    · refine ⟨⟨g, i + 1, none⟩, by simp [hc], fun t u hu => ?_⟩
      rw [hnews, List.getElem?_map, List.getElem?_drop] at hu
      have ht : i + 1 + t < rs.length := by
        rcases Nat.lt_or_ge (i + 1 + t) rs.length with h | h
        · exact h
        · rw [List.getElem?_eq_none h] at hu; simp at hu
      rw [List.getElem?_eq_getElem ht] at hu
      have := (gc (i + 1 + t) ht).1
      rw [List.getD_eq_getElem?_getD, List.getElem?_eq_getElem ht] at this
      have e : (⟨g, i + 1, none⟩ : Addr).add t = ⟨g, i + 1 + t, none⟩ := by unfold Addr.add; split <;> simp_all
      rw [e]
      simp at hu
      rw [← hu]
      exact this
  have S := Lib.hid hsrc
  have NW := Lib.hid hnews
  obtain ⟨W1, hW1⟩ : ∃ W1, W1 = w.drew.setCells g (0 + i * 1) news := ⟨_, rfl⟩
  have hW := Lib.hid hW1
  have O1 := Lib.hid (show ∀ t, t < n → (W1.cell? ⟨g, t, none⟩).isSome = true ∧ W1.frozen? ⟨g, t, none⟩ = false from fun t ht => by
    have h2 := ownsRow_setCells news i w _ h.row
    have e1 : W1.cell? ⟨g, t, none⟩ = (w.setCells g i news).cell? ⟨g, t, none⟩ := by rw [hW1, Nat.zero_add, Nat.mul_one]; exact World.cell?_of_block (a := ⟨g, t, none⟩) (setCells_same g news i w.drew w rfl)
    have e2 : W1.frozen? ⟨g, t, none⟩ = (w.setCells g i news).frozen? ⟨g, t, none⟩ := by rw [hW1, Nat.zero_add, Nat.mul_one]; exact World.frozen?_of_block (a := ⟨g, t, none⟩) (setCells_same g news i w.drew w rfl)
    have hl := h2.1
    refine ⟨?_, by rw [e2]; exact World.ownsRow.frozenAt (by exact h2) t⟩
    rw [e1, World.ownsRow.cellAt (by exact h2) t (by rw [← hrn] at ht; simpa using ht), List.getElem?_eq_getElem (by rw [hl, hrn]; omega)]
    rfl)
  have hcl : ∀ ty, (Builtin.clear_ #[24] ty #[.slice (some ⟨g, i + (n - (i + 1)), none⟩) (n - (i + (n - (i + 1)))) (c - (i + (n - (i + 1))))]).run Try.prog W1 = .ok (.tuple #[]) (W1.setCells g (i + (n - (i + 1))) (List.replicate (n - (i + (n - (i + 1)))) (.slice none 0 0))) :=
    fun ty => Lib.run_clear_slice W1 _ _ ty _ Try.underlying24 (fun w => by kernel_rfl) rfl rfl g (i + (n - (i + 1))) _ _ (by omega) (fun t ht => by rw [show i + (n - (i + 1)) + t = n - 1 + t by omega]; exact (O1.out _ (by omega)).1) (fun t ht => by rw [show i + (n - (i + 1)) + t = n - 1 + t by omega]; exact (O1.out _ (by omega)).2)
  have ci : i ≤ c := by omega
  have cj : i + 1 ≤ c := by omega
  have i0' : (0 : Int) ≤ (i : Int) + 1 := by omega
  have i1' : ((i : Int) + 1).toNat = i + 1 := by omega
  have i2' : (i : Int) + 1 ≤ (n : Int) := by omega
  rw [hrn]
  rw [hrn] at hcap hi'
  clear h gc hnews hW1 hsrc hn hrn
  go_enter Try.func69, Try.ntmps69
  go_wp2_with fail
  go_region_law (refine step_append_room rfl (.tmp 22) (.tmp 25) 24 rfl 34 i0 1 Try.underlying24 hi0 hz1 g 0 i c (by simp [Act.eval, Act.put]) A (n - (i + 1)) (c - (i + 1)) news (by simp [Act.eval, Act.put]) s1.out S.out s2.out (by omega) s3.out ?_; rw [← hW.out])
  go_wp2
  go_ret
  have eN : n - (i + (n - (i + 1))) = 1 := by omega
  have eI : i + (n - (i + 1)) = n - 1 := by omega
  rw [eN, eI, hW.out]
  refine ⟨rfl, DEL.out.of_heap ?_, ?_⟩
  · rw [HN.out, Nat.zero_add, Nat.mul_one, NW.out]
    exact setCells_heap g _ _ _ _ (setCells_heap g _ _ _ _ rfl)
  · exact (show Kept lo hi w w.drew from ⟨rfl, rfl, rfl, Nat.le_refl _, fun _ _ _ => rfl⟩).trans (OwnS.deleted_kept g1 g2 _ _ _ _)

end Go.Proofs.Ytjommpdblbbkdaa
