/- Tokens with gaps between them, and their plain text, are read as the same tokens. -/
import Derived.Test.YtgffiggnmklcoaaGreatDoorS1
import Derived.Test.YtgffiggnmklcoaaGreatDoorM4
namespace Go.Proofs.YtgffiggnmklcoaaGreatDoor

/-- the law's gaps -/
def gapL : Nat → List UInt8
  | 0 => [32]
  | 1 => [10]
  | 2 => [9, 32, 9]
  | 3 => [32, 35, 32, 97, 32, 110, 111, 116, 101, 32, 36, 10]
  | _ => [13, 10]
theorem drop_one {l r : List UInt8} {a : Nat} {c : UInt8} (h : l.drop a = c :: r) : l.drop (a + 1) = r := drop_more (q := [c]) h
theorem skip_gap {l r : List UInt8} {a i : Nat} (h : l.drop a = gapL i ++ r) : Skip l a (a + (gapL i).length) := by
  match i, h with
  | 0, h => exact skip_blank (c := 32) (r := r) h rfl
  | 1, h => exact skip_blank (c := 10) (r := r) h rfl
  | 2, h =>
    have h1 := drop_one (c := 9) (r := 32 :: 9 :: r) h
    have h2 := drop_one h1
    exact (skip_blank (c := 9) (r := 32 :: 9 :: r) h rfl).trans ((skip_blank h1 rfl).trans (skip_blank h2 rfl))
  | 3, h =>
    have h0 : l.drop a = 32 :: (35 :: [32, 97, 32, 110, 111, 116, 101, 32, 36] ++ 10 :: r) := h
    have h1 := drop_one h0
    have h2 := drop_more (q := 35 :: [32, 97, 32, 110, 111, 116, 101, 32, 36]) h1
    exact (skip_blank h0 rfl).trans ((skip_note h1 (by decide)).trans (skip_blank h2 rfl))
  | n + 4, h =>
    have h0 : l.drop a = 13 :: 10 :: r := h
    have h1 := drop_one h0
    exact (skip_blank h0 rfl).trans (skip_blank h1 rfl)
theorem gap_behind (i : Nat) (r : List UInt8) : Behind (gapL i ++ r) := by
  match i with
  | 0 => exact .inr ⟨_, _, rfl, rfl⟩
  | 1 => exact .inr ⟨_, _, rfl, rfl⟩
  | 2 => exact .inr ⟨_, _, rfl, rfl⟩
  | 3 => exact .inr ⟨_, _, rfl, rfl⟩
  | n + 4 => exact .inr ⟨_, _, rfl, rfl⟩
theorem gap_len (i : Nat) : 0 < (gapL i).length ∧ (gapL i).length ≤ 12 := by
  match i with
  | 0 => decide
  | 1 => decide
  | 2 => decide
  | 3 => decide
  | n + 4 => exact ⟨by simp [gapL], by simp [gapL]⟩
/-- what two tokens have in common that are the same -/
def keyT (t : Tk) : Nat × List UInt8 × Nat := (t.kind, t.text, t.word)
/-- tokens, a gap behind each -/
def catG (gf : Nat → Nat) : Nat → List Tk → List UInt8
  | _, [] => []
  | i, t :: ts => t.text ++ (gapL (gf i) ++ catG gf (i + 1) ts)
theorem catG_snoc (gf : Nat → Nat) (ts : List Tk) (t : Tk) (i : Nat) : catG gf i (ts ++ [t]) = catG gf i ts ++ (t.text ++ gapL (gf (i + ts.length))) := by
  induction ts generalizing i with
  | nil => simp [catG]
  | cons x r ih =>
    have e : i + 1 + r.length = i + (x :: r).length := by simp; omega
    rw [List.cons_append, catG, catG, ih, e]; simp
theorem lex_end {l : List UInt8} {a f : Nat} (h : l.drop a = []) : lexF l f a = ([], none) := by
  have h1 : l.length ≤ a := List.drop_eq_nil_iff.1 h
  cases f with
  | zero => rfl
  | succ f => rw [lexF, if_pos h1]
theorem lex_cat (l : List UInt8) (gf : Nat → Nat) (ts : List Tk) (i a f : Nat) (h : l.drop a = catG gf i ts) (ht : ∀ t ∈ ts, TokOk t) (hf : l.length ≤ a + f) :
    ∃ ds, lexF l f a = (ds, none) ∧ ds.map (fun x => keyT x.2) = ts.map keyT := by
  induction ts generalizing i a f with
  | nil => exact ⟨[], lex_end h, rfl⟩
  | cons t r ih =>
    have hok := ht t List.mem_cons_self
    obtain ⟨f1, k, h1, k1, k2, k3, e1⟩ := lex_token h hok.1 (gap_behind _ _) hf
    have h2 := drop_more h
    obtain ⟨_, hsk⟩ := skip_gap h2
    obtain ⟨f2, h3, e2⟩ := hsk f1 h1
    obtain ⟨ds, e3, e4⟩ := ih (i + 1) _ f2 (drop_more h2) (fun t h => ht t (List.mem_cons_of_mem _ h)) h3
    refine ⟨(a, k) :: ds, ?_, ?_⟩
    · rw [e1, e2, e3]
    · rw [List.map_cons, List.map_cons, e4]
      show keyT k :: _ = _
      rw [keyT, k1, k2, k3, ← hok.2.1, ← hok.2.2]; rfl
theorem plain_cons (t u : Tk) (r : List Tk) : plainL (t :: u :: r) = t.text ++ 32 :: plainL (u :: r) := by
  rw [plainL, plainL, List.map_cons, List.map_cons, Lib.join_cons, Lib.join_cons, Lib.joinTail, Lib.joinTail]
  simp
theorem plain_one (t : Tk) : plainL [t] = t.text := by rw [plainL, List.map_cons, List.map_nil, Lib.join_one]
theorem lex_plain (l : List UInt8) (ts : List Tk) (a f : Nat) (h : l.drop a = plainL ts) (ht : ∀ t ∈ ts, TokOk t) (hf : l.length ≤ a + f) :
    ∃ ds, lexF l f a = (ds, none) ∧ ds.map (fun x => keyT x.2) = ts.map keyT := by
  induction ts generalizing a f with
  | nil => exact ⟨[], lex_end h, rfl⟩
  | cons t r ih =>
    have hok := ht t List.mem_cons_self
    cases r with
    | nil =>
      rw [plain_one] at h
      obtain ⟨f1, k, h1, k1, k2, k3, e1⟩ := lex_token (t := t.text) (r := []) (by rw [List.append_nil]; exact h) hok.1 (.inl rfl) hf
      have h2 := drop_more (q := t.text) (r := []) (by rw [List.append_nil]; exact h)
      refine ⟨[(a, k)], ?_, ?_⟩
      · rw [e1, lex_end h2]
      · show [keyT k] = [keyT t]
        rw [keyT, k1, k2, k3, ← hok.2.1, ← hok.2.2]; rfl
    | cons u r =>
      rw [plain_cons] at h
      obtain ⟨f1, k, h1, k1, k2, k3, e1⟩ := lex_token h hok.1 (.inr ⟨_, _, rfl, rfl⟩) hf
      have h2 := drop_more h
      obtain ⟨_, hsk⟩ := skip_blank h2 rfl
      obtain ⟨f2, h3, e2⟩ := hsk f1 h1
      obtain ⟨ds, e3, e4⟩ := ih _ f2 (drop_one h2) (fun t h => ht t (List.mem_cons_of_mem _ h)) h3
      refine ⟨(a, k) :: ds, ?_, ?_⟩
      · rw [e1, e2, e3]
      · rw [List.map_cons, List.map_cons, e4]
        show keyT k :: _ = _
        rw [keyT, k1, k2, k3, ← hok.2.1, ← hok.2.2]; rfl
theorem sameZ_key {a b : List Tk} (h : a.map keyT = b.map keyT) : sameZ (a.map Tk.z) (b.map Tk.z) = true := by
  induction a generalizing b with
  | nil =>
    cases b with
    | nil => rfl
    | cons y b => cases h
  | cons x a ih =>
    cases b with
    | nil => cases h
    | cons y b =>
      simp only [List.map_cons, List.cons.injEq] at h
      obtain ⟨hk, hr⟩ := h
      simp only [keyT, Prod.mk.injEq] at hk
      rw [List.map_cons, List.map_cons, sameZ, ih hr]
      simp [sameT, Tk.z, hk.1, hk.2.1, hk.2.2]
theorem all_zero {l : List UInt8} (h : (allF l).1 = 0) : l.length ≤ 65536 ∧ (lexAll l).2 = none ∧ allT l = (lexAll l).1.map (·.2) ∧ allF l = (0, 0, 0) ∧ ∀ t ∈ allT l, TokOk t := by
  by_cases hl : 65536 < l.length
  · rw [(all_long hl).2] at h; cases h
  · rcases hx : (lexAll l).2 with _ | ⟨a, e⟩
    · obtain ⟨h1, h2⟩ := all_none hl hx
      refine ⟨by omega, rfl, h1, h2, fun t ht => ?_⟩
      rw [h1] at ht
      obtain ⟨x, hx', rfl⟩ := List.mem_map.1 ht
      exact lexF_ok _ _ _ x hx'
    · rw [(all_some hl hx).2] at h
      have := lexF_err _ _ _ _ _ hx
      simp at h; omega
theorem all_wrong {l : List UInt8} (h : (allF l).1 ≠ 0) : allT l = [] := by
  by_cases hl : 65536 < l.length
  · exact (all_long hl).1
  · rcases hx : (lexAll l).2 with _ | ⟨a, e⟩
    · rw [(all_none hl hx).2] at h; exact absurd rfl h
    · exact (all_some hl hx).1
theorem again_of {l : List UInt8} {ts : List Tk} (hl : ¬ 65536 < l.length) (h : ∃ ds, lexAll l = (ds, none) ∧ ds.map (fun x => keyT x.2) = ts.map keyT) : allF l = (0, 0, 0) ∧ sameZ (ts.map Tk.z) ((allT l).map Tk.z) = true := by
  obtain ⟨ds, e, hk⟩ := h
  have h2 : (lexAll l).2 = none := by rw [e]
  obtain ⟨h3, h4⟩ := all_none hl h2
  refine ⟨h4, sameZ_key ?_⟩
  rw [h3, e, ← hk, List.map_map]; rfl
/-- the law's text -/
def spaced (g0 : Nat) (gf : Nat → Nat) (ts : List Tk) : List UInt8 := gapL g0 ++ catG gf 0 ts
theorem spaced_same {ts : List Tk} (g0 : Nat) (gf : Nat → Nat) (ht : ∀ t ∈ ts, TokOk t) (hl : ¬ 65536 < (spaced g0 gf ts).length) : allF (spaced g0 gf ts) = (0, 0, 0) ∧ sameZ (ts.map Tk.z) ((allT (spaced g0 gf ts)).map Tk.z) = true := by
  refine again_of hl ?_
  have h0 : (spaced g0 gf ts).drop 0 = gapL g0 ++ catG gf 0 ts := rfl
  obtain ⟨_, hsk⟩ := skip_gap h0
  obtain ⟨f1, h1, e1⟩ := hsk (spaced g0 gf ts).length (by omega)
  obtain ⟨ds, e2, e3⟩ := lex_cat _ gf ts 0 _ f1 (drop_more h0) ht h1
  exact ⟨ds, e1.trans e2, e3⟩
theorem plain_same {ts : List Tk} (ht : ∀ t ∈ ts, TokOk t) (hl : ¬ 65536 < (plainL ts).length) : allF (plainL ts) = (0, 0, 0) ∧ sameZ (ts.map Tk.z) ((allT (plainL ts)).map Tk.z) = true :=
  again_of hl (lex_plain _ ts 0 _ rfl ht (by omega))
end Go.Proofs.YtgffiggnmklcoaaGreatDoor
