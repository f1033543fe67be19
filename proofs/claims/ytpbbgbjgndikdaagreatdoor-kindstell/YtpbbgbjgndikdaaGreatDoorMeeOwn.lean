/- Plain facts on who comes and who rests: the document goes fill by fill, the program level by level; both take the same. No walk. Trades of the call's own, place by place. -/
import Derived.Test.YtpbbgbjgndikdaaGreatDoorMeePure
import Derived.Test.YtpbbgbjgndikdaaGreatDoorSidPut
import Derived.Test.YtpbbgbjgndikdaaGreatDoorMeeLvl
namespace Go.Proofs.YtpbbgbjgndikdaaGreatDoor.mee
open Go.RowKit Go.Proofs.YtpbbgbjgndikdaaGreatDoor.spn Go.Proofs.YtpbbgbjgndikdaaGreatDoor.que Go.Proofs.YtpbbgbjgndikdaaGreatDoor.sid
open Go.Proofs.YtpbbgbjgndikdaaGreatDoor.ord (O mB chk)

/-- The levels behind one fill of the first rest. -/
def stepL (p : Int) (z : List R) (t : List L) : List L := if z = [] then t else ⟨p, z⟩ :: t
theorem rest_pos {r : R} {rs : List R} (h : qchk (r :: rs) = 0) : 1 ≤ r.qty ∧ r.qty ≤ 10000 := by
  obtain ⟨-, hg⟩ := (qchk_zero _).1 h
  exact (rchk_zero (hg.1 r (by simp))).1
theorem step_queue {q : Int} {r : R} {rs : List R} (h : 0 < q) (hg : qchk (r :: rs) = 0) : qchk (tk1 (min q r.qty) r rs) = 0 ∧ tot (tk1 (min q r.qty) r rs) = tot (r :: rs) - min q r.qty := by
  have hp := rest_pos hg
  obtain ⟨h60, hgg⟩ := (qchk_zero _).1 hg
  obtain ⟨a, b, c⟩ := tk1_good hgg (show 1 ≤ min q r.qty by omega) (by omega)
  exact ⟨(qchk_zero _).2 ⟨by omega, a⟩, b⟩
theorem step_good {q p : Int} {r : R} {rs : List R} {t : List L} (h : 0 < q) (hl : ∀ l ∈ (⟨p, r :: rs⟩ :: t : List L), lchk l = 0) : ∀ l ∈ stepL p (tk1 (min q r.qty) r rs) t, lchk l = 0 := by
  have h1 : lchk ⟨p, r :: rs⟩ = 0 := hl _ (by simp)
  obtain ⟨hp, -, hq⟩ := lchk_zero h1
  have hz := (step_queue h hq).1
  intro l hm
  unfold stepL at hm
  by_cases e : tk1 (min q r.qty) r rs = []
  · rw [if_pos e] at hm; exact hl l (by simp [hm])
  · rw [if_neg e] at hm
    rcases List.mem_cons.1 hm with rfl | hm
    · exact lchk_of (by show (decide _ && decide _) = true; simp; exact hp) e hz
    · exact hl l (by simp [hm])
theorem tkl_fill {o : O} {p q : Int} {r : R} {rs : List R} {t : List L} (h : 0 < q) (hm : mB o p = true) (hg : qchk (r :: rs) = 0) :
    tkl o (⟨p, r :: rs⟩ :: t) q = ((tkl o (stepL p (tk1 (min q r.qty) r rs) t) (q - min q r.qty)).1, trd o p ⟨r.id, r.who, min q r.qty⟩ :: (tkl o (stepL p (tk1 (min q r.qty) r rs) t) (q - min q r.qty)).2.1, (tkl o (stepL p (tk1 (min q r.qty) r rs) t) (q - min q r.qty)).2.2) := by
  have hp := rest_pos hg
  have hgg := ((qchk_zero _).1 hg).2
  have hc := take_cons q r rs h hgg
  generalize hk : min q r.qty = k at *
  have hkp : 1 ≤ k ∧ k ≤ q := by omega
  generalize tk1 k r rs = z at *
  unfold stepL
  by_cases hz : z = []
  · subst hz
    rw [take_nil] at hc
    rw [if_pos rfl, tkl_gone h hm (by rw [hc])]
    simp only [hc]
    have e : q - sum [⟨r.id, r.who, k⟩] = q - k := by simp [sum]
    rw [e]
    rfl
  · rw [if_neg hz]
    by_cases h0 : q - k ≤ 0
    · rw [take_done _ _ h0] at hc
      rw [tkl_last h hm (by rw [hc]; exact hz), tkl_zero h0]
      simp only [hc]
      have e : q - sum [⟨r.id, r.who, k⟩] = q - k := by simp [sum]
      rw [e]
      rfl
    · have hs : ∀ S : List F, q - sum (⟨r.id, r.who, k⟩ :: S) = q - k - sum S := fun S => by simp only [sum]; omega
      by_cases he : (take (q - k) z).2 = []
      · rw [tkl_gone (l := ⟨p, z⟩) (by omega) hm he, tkl_gone h hm (by rw [hc]; exact he)]
        simp only [hc, hs]
        rfl
      · rw [tkl_last (l := ⟨p, z⟩) (by omega) hm he, tkl_last h hm (by rw [hc]; exact he)]
        simp only [hc, hs]
        rfl
end Go.Proofs.YtpbbgbjgndikdaaGreatDoor.mee
namespace Go.Proofs.YtpbbgbjgndikdaaGreatDoor.mee
open Go.RowKit Go.Proofs.YtpbbgbjgndikdaaGreatDoor.spn Go.Proofs.YtpbbgbjgndikdaaGreatDoor.que Go.Proofs.YtpbbgbjgndikdaaGreatDoor.sid

theorem flatT_get (ts : List T) : ∀ j, j < ts.length → ∀ i, i < 6 → (flatT ts)[j * 6 + i]? = (tV ts[j]!)[i]? := by
  induction ts with
  | nil => intro j hj; simp at hj
  | cons r t ih =>
    intro j hj i hi
    have e : flatT (r :: t) = tV r ++ flatT t := rfl
    rw [e]
    cases j with
    | zero => rw [Nat.zero_mul, Nat.zero_add, List.getElem?_append_left (by show i < 6; exact hi)]; rfl
    | succ j =>
      rw [List.getElem?_append_right (by show 6 ≤ _; omega)]
      have : (j + 1) * 6 + i - (tV r).length = j * 6 + i := by show (j + 1) * 6 + i - 6 = _; omega
      rw [this, ih j (by simpa using hj) i hi]
      rfl
/-- Trades of the call's own, place by place. -/
theorem OwnT.at {w : World} {base : Nat} {q : Option Addr} {n c : Nat} {ts : List T} (h : OwnT w base (.slice q n c) ts) {k : Nat} (hk : k < ts.length) : ∃ g off, q = some ⟨g, off, none⟩ ∧ g < w.heap.size ∧ w.cell? ⟨g, off + k * 6, none⟩ = some (.int .i64 ts[k]!.maker) ∧ w.cell? ⟨g, off + k * 6 + 1, none⟩ = some (.int .i64 ts[k]!.taker) ∧ w.cell? ⟨g, off + k * 6 + 2, none⟩ = some (.int .i64 ts[k]!.frm) ∧ w.cell? ⟨g, off + k * 6 + 3, none⟩ = some (.int .i64 ts[k]!.into) ∧ w.cell? ⟨g, off + k * 6 + 4, none⟩ = some (.int .i64 ts[k]!.price) ∧ w.cell? ⟨g, off + k * 6 + 5, none⟩ = some (.int .i64 ts[k]!.qty) := by
  have hn : n = ts.length := by obtain ⟨q', c', e⟩ := OwnM.form h; cases e; rfl
  subst hn
  cases q with
  | none =>
    rcases h.2 with ⟨e, hn⟩ | ⟨g, off, cap, cur, e, _⟩
    · rw [hn] at hk; exact absurd hk (Nat.not_lt_zero _)
    · cases e
  | some a =>
    rcases h.2 with ⟨e, hn⟩ | ⟨g, off, cap, cur, e, _⟩
    · cases e
    · cases e
      obtain ⟨hc, -, -, hlt⟩ := OwnM.cells h
      have hh : ∀ i u, i < 6 → (tV ts[k]!)[i]? = some u → w.cell? ⟨g, off + (k * 6 + i), none⟩ = some u := fun i u hi hu => hc (k * 6 + i) u (by rw [flatT_get ts k hk i hi]; exact hu)
      exact ⟨g, off, rfl, hlt, hh 0 _ (by omega) rfl, hh 1 _ (by omega) rfl, hh 2 _ (by omega) rfl, hh 3 _ (by omega) rfl, hh 4 _ (by omega) rfl, hh 5 _ (by omega) rfl⟩

end Go.Proofs.YtpbbgbjgndikdaaGreatDoor.mee
