/- Package wire in plain words: packs. -/
import Derived.Test.YtndkabnmffgebaaDoorWirRc
namespace Go.Proofs.YtndkabnmffgebaaDoor.wir
open Go.RowKit

/-- One command with its length ahead. -/
def one (xs : List Int) : List UInt8 := UInt8.ofNat (enc xs).length :: enc xs
def packB (l : List (List Int)) : List UInt8 := l.flatMap one
/-- The first error of commands, or 0. -/
def firstE : List (List Int) → Int
  | [] => 0
  | x :: r => if cchk x = 0 then firstE r else cchk x
/-- The error of a pack. -/
def packE (l : List (List Int)) : Int := if 400 < l.length then 4 else firstE l
/-- What bytes say of commands behind so many. -/
def unp : Nat → List UInt8 → Nat → Option (List (List Int))
  | _, [], _ => some []
  | 0, _ :: _, _ => none
  | f + 1, h :: t, k => if h.toNat ≤ t.length ∧ k ≠ 400 then (match rdC (t.take h.toNat) with | none => none | some x => (unp f (t.drop h.toNat) (k + 1)).map (x :: ·)) else none

theorem rdC_some {b : List UInt8} {x : List Int} (h : rdC b = some x) : x.length = 11 ∧ cchk x = 0 ∧ enc x = b := by
  unfold rdC at h
  split at h
  · rename_i hc
    cases h
    exact ⟨rd_length b, hc.1, hc.2⟩
  · cases h
theorem rdC_enc {x : List Int} (hl : x.length = 11) (h : cchk x = 0) : rdC (enc x) = some x := by
  unfold rdC
  rw [rd_enc hl h, if_pos ⟨h, rfl⟩]
theorem lenE_small (k : Int) : lenE k ≤ 18 := by
  unfold lenE
  repeat' split
  all_goals omega
theorem one_form {x : List Int} (hl : x.length = 11) (h : cchk x = 0) : (UInt8.ofNat (enc x).length).toNat = (enc x).length := by
  have := enc_length hl h
  have h2 := lenE_small (x[0]!)
  rw [UInt8.toNat_ofNat']
  omega
/-- What is packed comes again. -/
theorem unp_pack : ∀ (l : List (List Int)) (f k : Nat), (∀ x ∈ l, x.length = 11) → firstE l = 0 → k + l.length ≤ 400 → l.length ≤ f → unp f (packB l) k = some l
  | [], f, k, _, _, _, _ => by cases f <;> rfl
  | x :: r, 0, k, _, _, _, hf => by simp at hf
  | x :: r, f + 1, k, hl, he, hk, hf => by
    have hx : x.length = 11 := hl x (List.mem_cons_self ..)
    have hc : cchk x = 0 ∧ firstE r = 0 := by
      have he' : (if cchk x = 0 then firstE r else cchk x) = 0 := he
      split at he'
      · rename_i h; exact ⟨h, he'⟩
      · rename_i h; exact absurd he' h
    have e : packB (x :: r) = UInt8.ofNat (enc x).length :: (enc x ++ packB r) := rfl
    rw [e]
    rw [List.length_cons] at hk hf
    have e2 : unp (f + 1) (UInt8.ofNat (enc x).length :: (enc x ++ packB r)) k = (if (UInt8.ofNat (enc x).length).toNat ≤ (enc x ++ packB r).length ∧ k ≠ 400 then (match rdC ((enc x ++ packB r).take (UInt8.ofNat (enc x).length).toNat) with | none => none | some x' => (unp f ((enc x ++ packB r).drop (UInt8.ofNat (enc x).length).toNat) (k + 1)).map (x' :: ·)) else none) := rfl
    rw [e2, one_form hx hc.1, if_pos ⟨by rw [List.length_append]; omega, by omega⟩, List.take_left, List.drop_left, rdC_enc hx hc.1]
    show (unp f (packB r) (k + 1)).map (x :: ·) = _
    rw [unp_pack r f (k + 1) (fun y hy => hl y (List.mem_cons_of_mem _ hy)) hc.2 (by omega) (by omega)]
    rfl
/-- Of what comes the same is packed. -/
theorem unp_sound : ∀ (f : Nat) (b : List UInt8) (k : Nat) (l : List (List Int)), k ≤ 400 → unp f b k = some l → packB l = b ∧ (∀ x ∈ l, x.length = 11) ∧ firstE l = 0 ∧ k + l.length ≤ 400
  | f, [], k, l, hk, h => by
    have : l = [] := by cases f <;> (simp [unp] at h; exact h)
    subst this
    exact ⟨rfl, by simp, rfl, by simpa using hk⟩
  | 0, h :: t, k, l, hk, hu => by simp [unp] at hu
  | f + 1, h :: t, k, l, hk, hu => by
    simp only [unp] at hu
    split at hu
    · rename_i hc
      cases hr : rdC (t.take h.toNat) with
      | none => rw [hr] at hu; cases hu
      | some x =>
        rw [hr] at hu
        cases hq : unp f (t.drop h.toNat) (k + 1) with
        | none => rw [hq] at hu; cases hu
        | some r =>
          rw [hq] at hu
          cases hu
          obtain ⟨h1, h2, h3, h4⟩ := unp_sound f _ (k + 1) r (by omega) hq
          obtain ⟨x1, x2, x3⟩ := rdC_some hr
          have hlen : (enc x).length = h.toNat := by rw [x3, List.length_take]; omega
          refine ⟨?_, ?_, ?_, by rw [List.length_cons]; omega⟩
          · have e : packB (x :: r) = UInt8.ofNat (enc x).length :: (enc x ++ packB r) := rfl
            rw [e, hlen, h1, x3, List.take_append_drop, UInt8.ofNat_toNat]
          · intro y hy
            rcases List.mem_cons.1 hy with rfl | hy
            · exact x1
            · exact h2 y hy
          · show (if cchk x = 0 then firstE r else cchk x) = 0
            rw [if_pos x2, h3]
    · cases hu
theorem packB_append (a b : List (List Int)) : packB (a ++ b) = packB a ++ packB b := by simp [packB]
theorem packB_length : ∀ (l : List (List Int)), (∀ x ∈ l, x.length = 11) → firstE l = 0 → (packB l).length ≤ 19 * l.length
  | [], _, _ => by simp [packB]
  | x :: r, hl, he => by
    have hx : x.length = 11 := hl x (List.mem_cons_self ..)
    have hc : cchk x = 0 ∧ firstE r = 0 := by
      have he' : (if cchk x = 0 then firstE r else cchk x) = 0 := he
      split at he'
      · rename_i h; exact ⟨h, he'⟩
      · rename_i h; exact absurd he' h
    have := packB_length r (fun y hy => hl y (List.mem_cons_of_mem _ hy)) hc.2
    have h1 := enc_length hx hc.1
    have h2 := lenE_small (x[0]!)
    have e : packB (x :: r) = UInt8.ofNat (enc x).length :: (enc x ++ packB r) := rfl
    rw [e, List.length_cons, List.length_append, List.length_cons]
    omega
/-- The first so many have no error: the error of all is that of the others. -/
theorem firstE_drop {l : List (List Int)} {k : Nat} (hk : k < l.length) : firstE (l.drop k) = if cchk (l[k]!) = 0 then firstE (l.drop (k + 1)) else cchk (l[k]!) := by
  rw [List.drop_eq_getElem_cons hk, getW _ _ hk]
  rfl
end Go.Proofs.YtndkabnmffgebaaDoor.wir
