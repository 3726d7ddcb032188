/- M2, M3, M4 as one. -/
import Derived.Test.YtnghehcjklkoeaaM1
import Derived.Lib.Strings
import Derived.Lib.IndexBytes
import Derived.Maps.OwnSet
import Derived.MapFrom
/- Names. -/
namespace Go.Proofs.Ytnghehcjklkoeaa
open Go.RowKit

def isLet (c : UInt8) : Bool := decide (97 ≤ c.toNat) && decide (c.toNat ≤ 122)
def isDig (c : UInt8) : Bool := decide (48 ≤ c.toNat) && decide (c.toNat ≤ 57)
def isPart (c : UInt8) : Bool := isLet c || isDig c || decide (c.toNat = 95)
def isNote (c : UInt8) : Bool := !decide (c.toNat = 10)

/-- the language's own words -/
def ownWords : List (List UInt8) := [[97, 114, 114, 97, 121], [101, 108, 115, 101], [102, 110], [102, 111, 114], [105, 102], [112, 105, 99, 107], [114, 101, 103, 105, 111, 110], [115, 101, 99, 114, 101, 116], [115, 116, 97, 99, 107], [118, 97, 114], [119, 104, 105, 108, 101]]
def ownB (l : List UInt8) : Bool := decide (l ∈ ownWords)
def nameB (l : List UInt8) : Bool := !l.isEmpty && decide (l.length ≤ 16) && isLet (l.headD 0) && !ownB l && l.all isPart

theorem let_any (c : UInt8) (w : World) : Calls Try.prog 93 #[.int .u8 (c.toNat : Int)] w fun e w' => e = .returned (.bool (isLet c)) ∧ w = w' := by
  have hb : c.toNat < 256 := c.toNat_lt
  unfold isLet
  by_cases h1 : 97 ≤ c.toNat
  · by_cases h2 : c.toNat ≤ 122
    · have e1 : decide ((97 : Int) ≤ (c.toNat : Int)) = true := decide_eq_true (by omega)
      have e2 : decide ((c.toNat : Int) ≤ 122) = true := decide_eq_true (by omega)
      go_enter Try.func93, Try.ntmps93
      go_wp2
      go_ret
      exact ⟨by simp [h1, h2], rfl⟩
    · have e1 : decide ((97 : Int) ≤ (c.toNat : Int)) = true := decide_eq_true (by omega)
      have e2 : decide ((c.toNat : Int) ≤ 122) = false := decide_eq_false (by omega)
      go_enter Try.func93, Try.ntmps93
      go_wp2
      go_ret
      exact ⟨by simp [h1, h2], rfl⟩
  · have e1 : decide ((97 : Int) ≤ (c.toNat : Int)) = false := decide_eq_false (by omega)
    go_enter Try.func93, Try.ntmps93
    go_wp2
    go_ret
    exact ⟨by simp [h1], rfl⟩

theorem own_split (l : List UInt8) : ownB l = ((l == [97, 114, 114, 97, 121]) || ((l == [101, 108, 115, 101]) || ((l == [102, 110]) || ((l == [102, 111, 114]) || ((l == [105, 102]) || ((l == [112, 105, 99, 107]) || ((l == [114, 101, 103, 105, 111, 110]) || ((l == [115, 101, 99, 114, 101, 116]) || ((l == [115, 116, 97, 99, 107]) || ((l == [118, 97, 114]) || ((l == [119, 104, 105, 108, 101])))))))))))  ) := by
  rw [Bool.eq_iff_iff]
  simp only [ownB, ownWords, List.mem_cons, List.not_mem_nil, or_false, decide_eq_true_eq, Bool.or_eq_true, beq_iff_eq]
theorem own_any (s : ByteArray) (w : World) : Calls Try.prog 94 #[.string s] w fun e w' => e = .returned (.bool (ownB s.data.toList)) ∧ w = w' := by
  rw [own_split, ← Go.Lib.toList_data]
  generalize e0 : (s.toList == [97, 114, 114, 97, 121]) = x0
  generalize e1 : (s.toList == [101, 108, 115, 101]) = x1
  generalize e2 : (s.toList == [102, 110]) = x2
  generalize e3 : (s.toList == [102, 111, 114]) = x3
  generalize e4 : (s.toList == [105, 102]) = x4
  generalize e5 : (s.toList == [112, 105, 99, 107]) = x5
  generalize e6 : (s.toList == [114, 101, 103, 105, 111, 110]) = x6
  generalize e7 : (s.toList == [115, 101, 99, 114, 101, 116]) = x7
  generalize e8 : (s.toList == [115, 116, 97, 99, 107]) = x8
  generalize e9 : (s.toList == [118, 97, 114]) = x9
  generalize e10 : (s.toList == [119, 104, 105, 108, 101]) = x10
  cases x0
  case true =>
    go_enter Try.func94, Try.ntmps94
    go_wp2
    go_ret
    exact ⟨rfl, rfl⟩
  cases x1
  case true =>
    go_enter Try.func94, Try.ntmps94
    go_wp2
    go_ret
    exact ⟨rfl, rfl⟩
  cases x2
  case true =>
    go_enter Try.func94, Try.ntmps94
    go_wp2
    go_ret
    exact ⟨rfl, rfl⟩
  cases x3
  case true =>
    go_enter Try.func94, Try.ntmps94
    go_wp2
    go_ret
    exact ⟨rfl, rfl⟩
  cases x4
  case true =>
    go_enter Try.func94, Try.ntmps94
    go_wp2
    go_ret
    exact ⟨rfl, rfl⟩
  cases x5
  case true =>
    go_enter Try.func94, Try.ntmps94
    go_wp2
    go_ret
    exact ⟨rfl, rfl⟩
  cases x6
  case true =>
    go_enter Try.func94, Try.ntmps94
    go_wp2
    go_ret
    exact ⟨rfl, rfl⟩
  cases x7
  case true =>
    go_enter Try.func94, Try.ntmps94
    go_wp2
    go_ret
    exact ⟨rfl, rfl⟩
  cases x8
  case true =>
    go_enter Try.func94, Try.ntmps94
    go_wp2
    go_ret
    exact ⟨rfl, rfl⟩
  cases x9
  case true =>
    go_enter Try.func94, Try.ntmps94
    go_wp2
    go_ret
    exact ⟨rfl, rfl⟩
  cases x10
  case true =>
    go_enter Try.func94, Try.ntmps94
    go_wp2
    go_ret
    exact ⟨rfl, rfl⟩
  go_enter Try.func94, Try.ntmps94
  go_wp2
  go_ret
  exact ⟨rfl, rfl⟩

theorem part_parts (c : UInt8) : isPart c = (isLet c || !(decide ((c.toNat : Int) < 48) || decide ((57 : Int) < (c.toNat : Int))) || !((c.toNat : Int) != 95)) := by
  have e1 : decide ((c.toNat : Int) < 48) = !decide (48 ≤ c.toNat) := by rw [Bool.eq_iff_iff]; simp; omega
  have e2 : decide ((57 : Int) < (c.toNat : Int)) = !decide (c.toNat ≤ 57) := by rw [Bool.eq_iff_iff]; simp; omega
  have e3 : ((c.toNat : Int) != 95) = !decide (c.toNat = 95) := by rw [Bool.eq_iff_iff]; simp; omega
  rw [e1, e2, e3]
  simp [isPart, isDig]
theorem isPart_take {l : List UInt8} {k : Nat} (h : (l.take k).all isPart = true) (hk : k < l.length) (hc : isPart l[k] = true) : (l.take (k + 1)).all isPart = true := by
  rw [List.take_succ_eq_append_getElem hk, List.all_append, h]; simp [hc]
theorem name_empty {l : List UInt8} (h : l = []) : nameB l = false := by subst h; rfl
theorem name_long {l : List UInt8} (h : 16 < l.length) : nameB l = false := by simp [nameB]; omega
theorem name_first {l : List UInt8} (h : isLet (l.headD 0) = false) : nameB l = false := by simp only [nameB, h, Bool.and_false, Bool.false_and]
theorem name_own {l : List UInt8} (h : ownB l = true) : nameB l = false := by simp only [nameB, h, Bool.not_true, Bool.and_false, Bool.false_and]
theorem name_part {l : List UInt8} {k : Nat} (hk : k < l.length) (h : isPart l[k] = false) : nameB l = false := by
  have : l.all isPart = false := by
    rw [Bool.eq_false_iff]
    intro ha
    rw [List.all_eq_true] at ha
    rw [ha _ (List.getElem_mem hk)] at h; cases h
  simp only [nameB, this, Bool.and_false]
theorem name_yes {l : List UInt8} (h0 : 0 < l.length) (h1 : l.length ≤ 16) (h2 : isLet (l.headD 0) = true) (h3 : ownB l = false) (h4 : (l.take l.length).all isPart = true) : nameB l = true := by
  rw [List.take_length] at h4
  cases l with
  | nil => simp at h0
  | cons c r => simp only [nameB, h2, h3, h4, decide_eq_true h1]; rfl
theorem head_get (l : List UInt8) (h : 0 < l.length) : l.headD 0 = l[0] := by
  cases l with
  | nil => simp at h
  | cons c r => rfl

set_option maxHeartbeats 1600000 in
theorem name_any (s : ByteArray) (w : World) : Calls Try.prog 77 #[.string s] w fun e w' => e = .returned (.bool (nameB s.data.toList)) ∧ w = w' := by
  by_cases h0 : s.size = 0
  · have h1 : s.data.toList = [] := List.eq_nil_of_length_eq_zero (by rw [← size_len]; exact h0)
    obtain rfl : s = ⟨#[]⟩ := bytes_ext h1
    go_enter Try.func77, Try.ntmps77
    go_wp2
    go_ret
    exact ⟨rfl, rfl⟩
  have hne : s.toList ≠ [] := fun h => h0 (by rw [size_len, ← Go.Lib.toList_data, h]; rfl)
  have e0 : s.toList.isEmpty = false := by cases h : s.toList with | nil => exact absurd h hne | cons _ _ => rfl
  have hpos : 0 < s.size := by omega
  clear h0
  by_cases h16 : 16 < s.size
  · have HF := Lib.hid (name_long (l := s.data.toList) (by rw [← size_len]; exact h16))
    go_enter Try.func77, Try.ntmps77
    go_wp2
    go_ret
    exact ⟨ret_bool HF.out.symm, rfl⟩
  have hlen : 0 < s.data.toList.length := by rw [← size_len]; exact hpos
  have hz : s.size ≤ 16 := by omega
  have hhd : s.data.toList.headD 0 = (s[0]'hpos) := head_get _ hlen
  have HL := Lib.hid (fun w => let_any (s[0]'hpos) w)
  have HFst := Lib.hid hhd
  clear hlen hhd
  cases hl : isLet (s[0]'hpos)
  · have HF := Lib.hid (name_first (l := s.data.toList) (by rw [HFst.out]; exact hl))
    rw [hl] at HL
    clear hl
    go_enter Try.func77, Try.ntmps77
    go_wp2_with (go_at_call 93; refine (HL.out _).mono ?_; rintro e w' ⟨rfl, rfl⟩)
    go_ret
    exact ⟨ret_bool HF.out.symm, rfl⟩
  rw [hl] at HL
  have HLt := Lib.hid hl
  clear hl
  have HO := Lib.hid (fun w => own_any s w)
  cases ho : ownB s.data.toList
  case true =>
    have HF := Lib.hid (name_own ho)
    rw [ho] at HO
    clear ho
    go_enter Try.func77, Try.ntmps77
    go_wp2_with (first | (go_at_call 93; refine (HL.out _).mono ?_; rintro e w' ⟨rfl, rfl⟩) | (go_at_call 94; refine (HO.out _).mono ?_; rintro e w' ⟨rfl, rfl⟩))
    go_ret
    exact ⟨ret_bool HF.out.symm, rfl⟩
  rw [ho] at HO
  have HOw := Lib.hid ho
  clear ho
  go_enter Try.func77, Try.ntmps77
  go_wp2_with (first | (go_at_call 93; refine (HL.out _).mono ?_; rintro e w' ⟨rfl, rfl⟩) | (go_at_call 94; refine (HO.out _).mono ?_; rintro e w' ⟨rfl, rfl⟩))
  
  
  go_loop [25] (fun i => ∃ k : Nat, i = .int .i64 k ∧ k ≤ s.size ∧ Hid ((s.data.toList.take k).all isPart = true)) (fun i => s.size - (intOf i).toNat)
  case atStart => exact ⟨0, rfl, by omega, Lib.hid rfl⟩
  case round =>
    obtain ⟨k, rfl, hk, hP⟩ := hrel
    by_cases hlt : k < s.size
    · have HLt' := Lib.hid (fun w => let_any (s[k]'hlt) w)
      have HS := Lib.hid (fun h => isPart_take (l := s.data.toList) (k := k) hP.out (by rw [← size_len]; exact hlt) h)
      have HN := Lib.hid (fun h => name_part (l := s.data.toList) (k := k) (by rw [← size_len]; exact hlt) h)
      have hg : s.data.toList[k]'(by rw [← size_len]; exact hlt) = s[k]'hlt := rfl
      rw [hg] at HS HN
      clear hg
      have hPt := part_parts (s[k]'hlt)
      rw [hPt] at HS HN
      clear hPt
      generalize isLet (s[k]'hlt) = a at *
      generalize e1 : decide (((s[k]'hlt).toNat : Int) < 48) = b at *
      generalize e2 : decide ((57 : Int) < ((s[k]'hlt).toNat : Int)) = c at *
      generalize e3 : (((s[k]'hlt).toNat : Int) != 95) = d at *
      have hk' : k + 1 ≤ s.size := hlt
      cases a <;> cases b <;> cases c <;> cases d <;>
      first
        | (have HF := Lib.hid (HN.out rfl)
           clear HN HS
           go_wp2_with (go_at_call 93; refine (HLt'.out _).mono ?_; rintro e w' ⟨rfl, rfl⟩)
           go_ret
           exact ⟨ret_bool HF.out.symm, rfl⟩)
        | (have HT := Lib.hid (HS.out rfl)
           clear HN HS
           go_wp2_with (go_at_call 93; refine (HLt'.out _).mono ?_; rintro e w' ⟨rfl, rfl⟩)
           go_round
           case rel => exact ⟨k + 1, by go_num, hk', HT⟩
           case measure => simp [intOf]; omega)
    · obtain rfl : k = s.size := by omega
      have HF := Lib.hid (name_yes (l := s.data.toList) (by rw [← size_len]; exact hpos) (by rw [← size_len]; exact hz) (by rw [HFst.out]; exact HLt.out) HOw.out (by rw [← size_len]; exact hP.out))
      go_wp2
      go_ret
      exact ⟨ret_bool HF.out.symm, rfl⟩

end Go.Proofs.Ytnghehcjklkoeaa
/- A map from texts to numbers that a call makes and counts in. -/
namespace Go.Proofs.Ytnghehcjklkoeaa
open Go.RowKit

/-- entries at these texts -/
def EsOf : List MapEntry → List (List UInt8 × Nat) → Prop
  | [], [] => True
  | e :: es, x :: T => e.key = .string (str x.1) ∧ e.val = .int .i64 (x.2 : Int) ∧ EsOf es T
  | _, _ => False
def gt : List (List UInt8 × Nat) → List UInt8 → Nat
  | [], _ => 0
  | x :: T, s => if s = x.1 then x.2 else gt T s
/-- one more at a text -/
def bump : List (List UInt8 × Nat) → List UInt8 → List (List UInt8 × Nat)
  | [], s => [(s, 1)]
  | x :: T, s => if s = x.1 then (x.1, x.2 + 1) :: T else x :: bump T s
theorem gt_bump (T : List (List UInt8 × Nat)) (s s' : List UInt8) : gt (bump T s) s' = gt T s' + if s' = s then 1 else 0 := by
  induction T with
  | nil => by_cases h : s' = s <;> simp [bump, gt, h]
  | cons x T ih =>
    by_cases h : s = x.1
    · by_cases h' : s' = s
      · subst h'; simp [bump, gt, h]
      · have h2 : ¬ s' = x.1 := fun e => h' (e.trans h.symm)
        simp [bump, gt, h, h2]
    · by_cases h' : s' = x.1
      · have h2 : ¬ x.1 = s := fun e => h e.symm
        simp [bump, gt, h, h', h2]
      · simp [bump, gt, h, h', ih]
theorem beq_str (a b : List UInt8) : ((str a) == (str b)) = decide (a = b) := by
  rw [Bool.eq_iff_iff, MapKept.bytes_beq, decide_eq_true_eq]
  exact ⟨fun h => by rw [← str_data a, ← str_data b, h], fun h => by rw [h]⟩
/-- what a search finds -/
theorem find_es : ∀ (es : List MapEntry) (T : List (List UInt8 × Nat)) (s : List UInt8) (j : Nat), EsOf es T →
    (gt T s = 0 ∧ bump T s = T ++ [(s, 1)] ∧ Instr.findNow .string (.string (str s)) es j = some none) ∨
    (∃ i, Instr.findNow .string (.string (str s)) es j = some (some (j + i, .int .i64 (gt T s : Int))) ∧ (es[i]?).map (·.key) = some (.string (str s)) ∧ ∀ v, v = Value.int .i64 ((gt T s + 1 : Nat) : Int) → EsOf (es.modify i fun e => { e with key := .string (str s), val := v }) (bump T s))
  | [], [], s, j, _ => .inl ⟨rfl, rfl, rfl⟩
  | [], _ :: _, _, _, h => by simp [EsOf] at h
  | _ :: _, [], _, _, h => by simp [EsOf] at h
  | e :: es, x :: T, s, j, h => by
    obtain ⟨hk, hv, hT⟩ := h
    by_cases hs : s = x.1
    · right
      refine ⟨0, ?_, ?_, ?_⟩
      · simp [Instr.findNow, Instr.sameNow, hk, hv, gt, hs, beq_str]
      · simp [hk, hs]
      · intro v hv'
        simp [List.modify, bump, hs, EsOf, hv', gt, hT]
    · have hb : ((str s) == (str x.1)) = false := by rw [beq_str]; simpa using hs
      rcases find_es es T s (j + 1) hT with ⟨h1, h2, h3⟩ | ⟨i, h1, h2, h3⟩
      · left
        refine ⟨by simp [gt, hs, h1], by simp [bump, hs, h2], ?_⟩
        simp [Instr.findNow, Instr.sameNow, hk, hb, h3]
      · right
        refine ⟨i + 1, ?_, by simpa using h2, ?_⟩
        · simp [Instr.findNow, Instr.sameNow, hk, hb, h1, gt, hs]; omega
        · intro v hv'
          have := h3 v (by rw [hv']; simp [gt, hs])
          simp only [List.modify_succ_cons, bump, hs, if_false]
          exact ⟨hk, hv, this⟩
theorem EsOf.push : ∀ (es : List MapEntry) (T : List (List UInt8 × Nat)) (s : List UInt8) (n : Nat), EsOf es T → EsOf (es ++ [{ key := .string (str s), val := .int .i64 1, born := n }]) (T ++ [(s, 1)])
  | [], [], _, _, _ => ⟨rfl, rfl, trivial⟩
  | [], _ :: _, _, _, h => by simp [EsOf] at h
  | _ :: _, [], _, _, h => by simp [EsOf] at h
  | e :: es, x :: T, s, n, h => ⟨h.1, h.2.1, EsOf.push es T s n h.2.2⟩

/-- block b is a map that counts so -/
def Cm (w : World) (b : Nat) (f : List UInt8 → Nat) : Prop := ∃ es clock T, w.heap[b]? = some (.map es clock) ∧ EsOf es.toList T ∧ ∀ s, gt T s = f s
theorem Cm.of_block {w w' : World} {b : Nat} {f : List UInt8 → Nat} (h : Cm w b f) (e : w'.heap[b]? = w.heap[b]?) : Cm w' b f := by
  obtain ⟨es, clock, T, h1, h2⟩ := h
  exact ⟨es, clock, T, e.trans h1, h2⟩
theorem Cm.lt {w : World} {b : Nat} {f : List UInt8 → Nat} (h : Cm w b f) : b < w.heap.size := by
  obtain ⟨es, clock, T, h1, h2⟩ := h
  exact (Array.getElem?_eq_some_iff.1 h1).1
theorem Cm.later {w w' : World} {b : Nat} {f : List UInt8 → Nat} (h : Cm w b f) (hB : Below w.heap.size w w') : Cm w' b f := h.of_block (hB.block b h.lt)
theorem Cm.new (w : World) : Cm (w.alloc (.map #[] 0)) w.heap.size fun _ => 0 := ⟨#[], 0, [], heap_alloc_new _ _, trivial, fun _ => rfl⟩
section
variable {P : Program} {t k e : TypeId}
theorem Cm.look {w : World} {b : Nat} {f : List UInt8 → Nat} (h : Cm w b f) (ht : P.underlying t = some (.map k e)) (hk : P.underlying k = some .string) (hz : ∀ w, (zeroValue e).run P w = .ok (.int .i64 0) w) (s : List UInt8) :
    (Instr.lookup t (.map (some b)) (.string (str s)) false).run P w = .ok (.int .i64 (f s : Int)) w := by
  obtain ⟨es, clock, T, hb, hE, hf⟩ := h
  have hck := MapKept.run_checkKey hk (k := .string (str s)) (w := w) (show MapKept.IsKey .string (.string (str s)) from trivial)
  rw [← hf]
  rcases find_es es.toList T s 0 hE with ⟨h1, h2, h3⟩ | ⟨i, h1, h2, h3⟩
  · have hf := MapKept.run_findKey (P := P) (w := w) hk h3
    rw [h1]
    simp [Instr.lookup, run_underlying ht, MapKept.run_getObj_map hb, hck, hf, hz, Result.andThen]
  · have hf := MapKept.run_findKey (P := P) (w := w) hk h1
    simp [Instr.lookup, run_underlying ht, MapKept.run_getObj_map hb, hck, hf, Result.andThen]
theorem Cm.put {w : World} {b : Nat} {f : List UInt8 → Nat} (h : Cm w b f) (ht : P.underlying t = some (.map k e)) (hk : P.underlying k = some .string) (s : List UInt8) :
    ∃ w', (Instr.mapUpdate t (.map (some b)) (.string (str s)) (.int .i64 ((f s + 1 : Nat) : Int))).run P w = .ok () w' ∧ Cm w' b (fun s' => f s' + if s' = s then 1 else 0) ∧ w'.heap.size = w.heap.size ∧ (∀ j, j ≠ b → w'.heap[j]? = w.heap[j]?) ∧ w'.os = w.os ∧ w'.tape = w.tape ∧ w'.output = w.output := by
  obtain ⟨es, clock, T, hb, hE, hf⟩ := h
  have hck := MapKept.run_checkKey hk (k := .string (str s)) (w := w) (show MapKept.IsKey .string (.string (str s)) from trivial)
  have hlt : b < w.heap.size := (Array.getElem?_eq_some_iff.1 hb).1
  have key : ∀ es' clock' T', EsOf es'.toList T' → T' = bump T s → (∃ w', w' = { w with heap := w.heap.setIfInBounds b (.map es' clock') } ∧ Cm w' b (fun s' => f s' + if s' = s then 1 else 0) ∧ w'.heap.size = w.heap.size ∧ (∀ j, j ≠ b → w'.heap[j]? = w.heap[j]?) ∧ w'.os = w.os ∧ w'.tape = w.tape ∧ w'.output = w.output) := by
    intro es' clock' T' h1 h2
    refine ⟨_, rfl, ⟨es', clock', T', by simp [hlt], h1, fun s' => by rw [h2, gt_bump, hf]⟩, by simp, fun j hj => by simp [Ne.symm hj], rfl, rfl, rfl⟩
  rw [← hf]
  rcases find_es es.toList T s 0 hE with ⟨h1, h2, h3⟩ | ⟨i, h1, h2, h3⟩
  · have hfk := MapKept.run_findKey (P := P) (w := w) hk h3
    rw [h1]
    obtain ⟨w', rfl, r⟩ := key (es.push { key := .string (str s), val := .int .i64 1, born := clock }) (clock + 1) _ (by rw [Array.toList_push]; exact EsOf.push _ _ s clock hE) h2.symm
    refine ⟨_, ?_, r⟩
    simp [Instr.mapUpdate, run_underlying ht, MapKept.run_getObj_map hb, hck, hfk, MapKept.run_setObj_map _ hb, Result.andThen]
  · have hfk := MapKept.run_findKey (P := P) (w := w) hk h1
    rw [Nat.zero_add] at hfk
    have hky : (es[i]?).map (·.key) = some (.string (str s)) := by rw [← Array.getElem?_toList]; exact h2
    have hst := MapKept.run_keyThatStays (P := P) (w := w) (d := .string) (k := .string (str s)) (show MapKept.IsKey .string (.string (str s)) from trivial)
    obtain ⟨w', rfl, r⟩ := key (es.modify i fun e => { e with key := .string (str s), val := .int .i64 ((gt T s + 1 : Nat) : Int) }) clock _ (by rw [Array.toList_modify]; exact h3 _ rfl) rfl
    refine ⟨_, ?_, r⟩
    simp [Instr.mapUpdate, run_underlying ht, MapKept.run_getObj_map hb, hck, hfk, hky, hst, MapKept.run_setObj_map _ hb, Result.andThen]
end
end Go.Proofs.Ytnghehcjklkoeaa
/- What asks of names, one behind the other. -/
namespace Go.Proofs.Ytnghehcjklkoeaa
open Go.RowKit

/-- all as it was but one block -/
structure But (g : Nat) (w w' : World) : Prop where
  os : w'.os = w.os
  tape : w'.tape = w.tape
  output : w'.output = w.output
  size : w.heap.size ≤ w'.heap.size
  block : ∀ k, k < w.heap.size → k ≠ g → w'.heap[k]? = w.heap[k]?
theorem But.refl (g : Nat) (w : World) : But g w w := ⟨rfl, rfl, rfl, Nat.le_refl _, fun _ _ _ => rfl⟩
theorem But.trans {g : Nat} {a b c : World} (h : But g a b) (k : But g b c) : But g a c :=
  ⟨k.os.trans h.os, k.tape.trans h.tape, k.output.trans h.output, Nat.le_trans h.size k.size, fun i hi hn => (k.block i (Nat.lt_of_lt_of_le hi h.size) hn).trans (h.block i hi hn)⟩
theorem But.of_below {g : Nat} {w w' : World} (h : Below w.heap.size w w') : But g w w' := ⟨h.os, h.tape, h.output, h.size, fun k hk _ => h.block k hk⟩
/-- all below B is as it was in a, though block g, which is not, was written -/
theorem But.below {g B : Nat} {a w w' : World} (h : Below B a w) (hb : But g w w') (hg : B ≤ g) (hz : B ≤ w.heap.size) : Below B a w' :=
  ⟨hb.os.trans h.os, hb.tape.trans h.tape, hb.output.trans h.output, Nat.le_trans h.size hb.size, fun k hk => (hb.block k (Nat.lt_of_lt_of_le hk hz) (by omega)).trans (h.block k hk)⟩
theorem cell_blk {w : World} {g : Nat} {A : Array Value} {t : TypeId} {fz : Nat × Nat} (h : w.heap[g]? = some (.cells A t fz)) {j : Nat} {v : Value} (hv : A[j]? = some v) : w.cell? ⟨g, j, none⟩ = some v := by
  simp [World.cell?, h, hv]
theorem lt_blk {w : World} {g : Nat} {o : Obj} (h : w.heap[g]? = some o) : g < w.heap.size := (Array.getElem?_eq_some_iff.1 h).1

theorem Cm.but {w w' : World} {b g : Nat} {f : List UInt8 → Nat} (h : Cm w b f) (hB : But g w w') (hg : b ≠ g) : Cm w' b f := h.of_block (hB.block b h.lt hg)
def add (f : List UInt8 → Nat) (s : List UInt8) : List UInt8 → Nat := fun s' => f s' + if s' = s then 1 else 0
/-- what asks of names: its map in block b, of which cell g tells -/
def Nm (w : World) (g b : Nat) (f : List UInt8 → Nat) : Prop := w.heap[g]? = some (.cells #[.map (some b)] 78 (0, 0)) ∧ Cm w b f ∧ g ≠ b
theorem Nm.later {w w' : World} {g b : Nat} {f : List UInt8 → Nat} (h : Nm w g b f) (hB : Below w.heap.size w w') : Nm w' g b f := ⟨(hB.block g (lt_blk h.1)).trans h.1, h.2.1.later hB, h.2.2⟩
theorem Nm.but {w w' : World} {g b k : Nat} {f : List UInt8 → Nat} (h : Nm w g b f) (hB : But k w w') (h1 : g ≠ k) (h2 : b ≠ k) : Nm w' g b f := ⟨(hB.block g (lt_blk h.1) h1).trans h.1, h.2.1.but hB h2, h.2.2⟩
def nmFn (g : Nat) : Value := .func (.func 76) #[] #[.pointer (some ⟨g, 0, none⟩)]
theorem names_any (w : World) : Calls Try.prog 59 #[] w fun z w' => ∃ g b, z = .returned (nmFn g) ∧ Nm w' g b (fun _ => 0) ∧ w.heap.size ≤ g ∧ w.heap.size ≤ b ∧ Below w.heap.size w w' := by
  have hmm := @run_makeMap Try.prog
  go_enter Try.func59, Try.ntmps59
  go_wp2_with fail
  have hB := ((Below.refl _ w).alloc (Nat.le_refl _) (.map #[] 0)).alloc (by simp) (.cells #[.map (some w.heap.size)] 78)
  have h1 := heap_alloc_new (w.alloc (.map #[] 0)) (.cells #[.map (some w.heap.size)] 78)
  have h2 := (Cm.new w).later ((Below.refl _ _).alloc (Nat.le_refl _) (.cells #[.map (some w.heap.size)] 78))
  go_ret
  exact ⟨w.heap.size + 1, w.heap.size, rfl, ⟨by simpa using h1, h2, by omega⟩, by omega, Nat.le_refl _, hB⟩

theorem zeroInt (w : World) : (zeroValue 3).run Try.prog w = .ok (.int .i64 0) w := by kernel_rfl
set_option maxHeartbeats 800000 in
theorem name1_no (s : List UInt8) (g b : Nat) (f : List UInt8 → Nat) (w : World) (h : Nm w g b f) (hn : (nameB s && decide (f s = 0)) = false) :
    Calls Try.prog 76 #[.string (str s), .pointer (some ⟨g, 0, none⟩)] w fun z w' => z = Pn 8 ∧ w' = w := by
  have c0 := cell_blk h.1 (j := 0) rfl
  have hlk := h.2.1.look Try.underlying78 Try.underlying9 zeroInt s
  have HN := Lib.hid (fun w => name_any (str s) w)
  rw [str_data] at HN
  cases hs : nameB s with
  | false =>
    rw [hs] at HN
    go_enter Try.func76, Try.ntmps76
    go_wp2_with (first | (go_at_call 77; refine (HN.out _).mono ?_; rintro e w' ⟨rfl, rfl⟩) | (go_at_call 57; refine (must_no 8 _).mono ?_; rintro e w' ⟨rfl, rfl⟩; unfold Pn))
    exact ⟨rfl, rfl, rfl⟩
  | true =>
    rw [hs] at HN hn
    have h0 : ((f s : Int) == 0) = false := by simp at hn ⊢; omega
    go_enter Try.func76, Try.ntmps76
    go_wp2_with (first | (go_at_call 77; refine (HN.out _).mono ?_; rintro e w' ⟨rfl, rfl⟩) | (go_at_call 57; refine (must_no 8 _).mono ?_; rintro e w' ⟨rfl, rfl⟩; unfold Pn))
    exact ⟨rfl, rfl, rfl⟩
set_option maxHeartbeats 800000 in
theorem name1_yes (s : List UInt8) (g b : Nat) (f : List UInt8 → Nat) (w : World) (h : Nm w g b f) (hn : (nameB s && decide (f s = 0)) = true) :
    Calls Try.prog 76 #[.string (str s), .pointer (some ⟨g, 0, none⟩)] w fun z w' => z = .returned (.tuple #[]) ∧ Nm w' g b (add f s) ∧ But b w w' := by
  have c0 := cell_blk h.1 (j := 0) rfl
  simp only [Bool.and_eq_true, decide_eq_true_eq] at hn
  have hlk := h.2.1.look Try.underlying78 Try.underlying9 zeroInt s
  obtain ⟨w2, hup, hc, hz, hb, ho, ht, hp⟩ := h.2.1.put Try.underlying78 Try.underlying9 s
  rw [hn.2] at hlk hup
  have HR := Lib.hid (show Nm w2 g b (add f s) ∧ But b w w2 from ⟨⟨(hb g h.2.2).trans h.1, hc, h.2.2⟩, ⟨ho, ht, hp, by omega, fun k _ hk => hb k hk⟩⟩)
  have HN := Lib.hid (fun w => name_any (str s) w)
  rw [str_data, hn.1] at HN
  have e0 : ((0 : Nat) : Int) = 0 := rfl
  have e1 : ((0 + 1 : Nat) : Int) = 1 := rfl
  rw [e0] at hlk
  rw [e1] at hup
  clear e0 e1 hc hz hb ho ht hp hn h
  go_enter Try.func76, Try.ntmps76
  go_wp2_with (first | (go_at_call 77; refine (HN.out _).mono ?_; rintro e w' ⟨rfl, rfl⟩) | (go_at_call 57; refine (must_yes 8 _).mono ?_; rintro e w' ⟨rfl, rfl⟩))

  go_end0
  exact ⟨rfl, HR.out⟩
end Go.Proofs.Ytnghehcjklkoeaa
