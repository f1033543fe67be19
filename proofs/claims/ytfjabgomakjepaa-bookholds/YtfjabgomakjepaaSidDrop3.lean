/- Contracts over this seat's translation: side.Drop at every side and id. -/
import Derived.Test.YtfjabgomakjepaaSidDrop2
namespace Go.Proofs.Ytfjabgomakjepaa.sid
open Go.RowKit Go.Proofs.Ytfjabgomakjepaa.spn Go.Proofs.Ytfjabgomakjepaa.que Go.Maps

theorem find_zero {s : Int} {ls : List L} {id : Int} (h : findE s ls id = 0) : schk s ls = 0 ∧ ∃ t, lastAt (flatP 0 ls) id = some t ∧ findP s ls id = t.2 := by
  have h1 : schk s ls = 0 := by
    by_cases h0 : schk s ls = 0
    · exact h0
    · unfold findE at h; rw [if_neg h0] at h; exact h
  refine ⟨h1, ?_⟩
  cases hl : lastAt (flatP 0 ls) id with
  | none => unfold findE at h; rw [if_pos h1, hl] at h; simp at h
  | some t => exact ⟨t, rfl, by unfold findP; rw [if_pos h, hl]; rfl⟩
/-- Where an id is, of a side that has it. -/
theorem find_spot {s : Int} {ls : List L} {id : Int} (h : findE s ls id = 0) : schk s ls = 0 ∧ ∃ i k : Nat, ∃ hi : i < ls.length, ∃ hk : k < ls[i].rests.length, ls[i].rests[k].id = id ∧ findP s ls id = ((i : Int), (k : Int)) := by
  obtain ⟨h0, t, h1, h2⟩ := find_zero h
  obtain ⟨i, k, hi, hk, e1, e2⟩ := last_is h1
  exact ⟨h0, i, k, hi, hk, e1, h2.trans e2⟩

/-- Drop, at every side and id. -/
theorem drop_any (s : Int) (v : Value) (ls : List L) (id : Int) (w : World) (h : LS w v ls) (hid : (Lit.int .i64 id).wf = true) :
    Calls Try.prog 7 #[.int .i64 s, v, .int .i64 id] w fun x w' => DropPost s ls id w x w' := by
  by_cases h0 : findE s ls id = 0
  · obtain ⟨hs, i, k, hi, hk, e1, e2⟩ := find_spot h0
    have hfv : findV s ls id = .tuple #[.int .i64 i, .int .i64 k, .nilIface] := by unfold findV; rw [e2, h0, errV_zero]
    rcases h with ⟨rfl, rfl⟩ | ⟨b, o, c, rfl, h2, h3, h4, h5⟩
    · simp at hi
    · obtain ⟨l, hl⟩ : ∃ l, ls[i]! = l := ⟨_, rfl⟩
      obtain ⟨p, zs⟩ := l
      have hle : ls[i] = ⟨p, zs⟩ := by rw [← hl, getE _ _ hi]
      have hk2 : k < zs.length := by rw [hle] at hk; exact hk
      obtain ⟨r, hr⟩ : ∃ r, zs[k]! = r := ⟨_, rfl⟩
      obtain ⟨r1, r2, r3, r4, r5⟩ := r
      refine drop_good s b o c ls.length ls id i k p zs r1 r2 r3 r4 r5 w rfl h4 h2 h3 h5 hid hs hfv hi hl hk2 hr (DropPost s ls id w) (fun W v3 hW hL => ⟨hW, v3, ?_, ?_⟩)
      · unfold dropRest dropPrice
        rw [if_pos h0, if_pos h0, e2, h0, errV_zero]
        simp only [Int.toNat_natCast]
        rw [hl]
        simp only []
        rw [hr]
        rfl
      · unfold dropE
        rw [if_pos h0, e2]
        simp only [Int.toNat_natCast]
        exact hL
  · obtain ⟨q, m, c, rfl⟩ := ls_form h
    exact drop_err s q m c ls id w h hid h0
end Go.Proofs.Ytfjabgomakjepaa.sid
