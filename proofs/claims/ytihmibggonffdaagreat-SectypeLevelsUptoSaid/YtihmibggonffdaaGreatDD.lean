/- D1, DD as one. -/
import Derived.Test.YtihmibggonffdaaGreatM3
import Derived.Test.YtihmibggonffdaaGreatDF
import Derived.Test.YtihmibggonffdaaGreatF1
/- The document's names. -/
namespace Go.Proofs.YtihmibggonffdaaGreat
open Go.RowKit

def ownWords2 : List (List UInt8) := [[114, 101, 103, 105, 111, 110], [115, 101, 99, 114, 101, 116], [102, 110], [118, 97, 114], [97, 114, 114, 97, 121], [115, 116, 97, 99, 107], [105, 102], [101, 108, 115, 101], [119, 104, 105, 108, 101], [102, 111, 114], [112, 105, 99, 107]]
theorem own2 (l : List UInt8) : ownB l = decide (l ∈ ownWords2) := by
 unfold ownB
 rw [decide_eq_decide]
 constructor
 · intro h
   simp only [ownWords, List.mem_cons, List.not_mem_nil, or_false] at h
   rcases h with h | h | h | h | h | h | h | h | h | h | h <;> subst h <;> decide
 · intro h
   simp only [ownWords2, List.mem_cons, List.not_mem_nil, or_false] at h
   rcases h with h | h | h | h | h | h | h | h | h | h | h <;> subst h <;> decide
def noneOf (l : List UInt8) (k : Nat) : Prop := ∀ x ∈ ownWords2.take k, (x == l) = false
theorem noneOf.step {l : List UInt8} {k : Nat} (h : noneOf l k) (x : List UInt8) (hx : ownWords2[k]? = some x) (he : (x == l) = false) : noneOf l (k + 1) := by
 intro y hy
 rw [List.take_add_one, hx] at hy
 rcases List.mem_append.1 hy with h1 | h1
 · exact h y h1
 · simp at h1; subst h1; exact he
theorem noneOf.no {l : List UInt8} (h : noneOf l 11) : ownB l = false := by
 rw [own2]
 refine decide_eq_false fun hm => ?_
 have := h l hm
 simp at this
theorem own_yes {l : List UInt8} {x : List UInt8} (k : Nat) (hx : ownWords2[k]? = some x) (he : (x == l) = true) : ownB l = true := by
 rw [own2]
 refine decide_eq_true ?_
 rw [← beq_iff_eq.1 he]
 exact List.mem_of_getElem? hx
set_option maxHeartbeats 1600000 in
theorem rown_any (s : ByteArray) (w : World) : Calls Tryz.prog 62 #[.string s] w fun e w' => e = .returned (.bool (ownB s.data.toList)) ∧ Below w.heap.size w w' := by
 rw [← Go.Lib.toList_data]
 go_enter Tryz.func62, Tryz.ntmps62
 go_wp2
 go_loop [4] (fun i => ∃ k : Nat, i = .int .i64 k ∧ k ≤ 11 ∧ Hid (noneOf s.toList k)) (fun i => 11 - (intOf i).toNat)
 case atStart => exact ⟨0, rfl, by omega, Lib.hid (fun y hy => by simp at hy)⟩
 case round =>
   obtain ⟨k, rfl, hk, hN⟩ := hrel
   rcases k with _|_|_|_|_|_|_|_|_|_|_|_|k
   · cases e : ([114, 101, 103, 105, 111, 110] == s.toList)
     · have HS := Lib.hid (hN.out.step [114, 101, 103, 105, 111, 110] rfl e)
       go_wp2
       go_round
       case rel => exact ⟨1, rfl, by omega, HS⟩
       case measure => simp [intOf]
     · have HS := Lib.hid (own_yes 0 rfl e)
       go_wp2
       go_ret
       exact ⟨ret_bool HS.out.symm, (Below.refl _ _).alloc (Nat.le_refl _) _⟩
   · cases e : ([115, 101, 99, 114, 101, 116] == s.toList)
     · have HS := Lib.hid (hN.out.step [115, 101, 99, 114, 101, 116] rfl e)
       go_wp2
       go_round
       case rel => exact ⟨2, rfl, by omega, HS⟩
       case measure => simp [intOf]
     · have HS := Lib.hid (own_yes 1 rfl e)
       go_wp2
       go_ret
       exact ⟨ret_bool HS.out.symm, (Below.refl _ _).alloc (Nat.le_refl _) _⟩
   · cases e : ([102, 110] == s.toList)
     · have HS := Lib.hid (hN.out.step [102, 110] rfl e)
       go_wp2
       go_round
       case rel => exact ⟨3, rfl, by omega, HS⟩
       case measure => simp [intOf]
     · have HS := Lib.hid (own_yes 2 rfl e)
       go_wp2
       go_ret
       exact ⟨ret_bool HS.out.symm, (Below.refl _ _).alloc (Nat.le_refl _) _⟩
   · cases e : ([118, 97, 114] == s.toList)
     · have HS := Lib.hid (hN.out.step [118, 97, 114] rfl e)
       go_wp2
       go_round
       case rel => exact ⟨4, rfl, by omega, HS⟩
       case measure => simp [intOf]
     · have HS := Lib.hid (own_yes 3 rfl e)
       go_wp2
       go_ret
       exact ⟨ret_bool HS.out.symm, (Below.refl _ _).alloc (Nat.le_refl _) _⟩
   · cases e : ([97, 114, 114, 97, 121] == s.toList)
     · have HS := Lib.hid (hN.out.step [97, 114, 114, 97, 121] rfl e)
       go_wp2
       go_round
       case rel => exact ⟨5, rfl, by omega, HS⟩
       case measure => simp [intOf]
     · have HS := Lib.hid (own_yes 4 rfl e)
       go_wp2
       go_ret
       exact ⟨ret_bool HS.out.symm, (Below.refl _ _).alloc (Nat.le_refl _) _⟩
   · cases e : ([115, 116, 97, 99, 107] == s.toList)
     · have HS := Lib.hid (hN.out.step [115, 116, 97, 99, 107] rfl e)
       go_wp2
       go_round
       case rel => exact ⟨6, rfl, by omega, HS⟩
       case measure => simp [intOf]
     · have HS := Lib.hid (own_yes 5 rfl e)
       go_wp2
       go_ret
       exact ⟨ret_bool HS.out.symm, (Below.refl _ _).alloc (Nat.le_refl _) _⟩
   · cases e : ([105, 102] == s.toList)
     · have HS := Lib.hid (hN.out.step [105, 102] rfl e)
       go_wp2
       go_round
       case rel => exact ⟨7, rfl, by omega, HS⟩
       case measure => simp [intOf]
     · have HS := Lib.hid (own_yes 6 rfl e)
       go_wp2
       go_ret
       exact ⟨ret_bool HS.out.symm, (Below.refl _ _).alloc (Nat.le_refl _) _⟩
   · cases e : ([101, 108, 115, 101] == s.toList)
     · have HS := Lib.hid (hN.out.step [101, 108, 115, 101] rfl e)
       go_wp2
       go_round
       case rel => exact ⟨8, rfl, by omega, HS⟩
       case measure => simp [intOf]
     · have HS := Lib.hid (own_yes 7 rfl e)
       go_wp2
       go_ret
       exact ⟨ret_bool HS.out.symm, (Below.refl _ _).alloc (Nat.le_refl _) _⟩
   · cases e : ([119, 104, 105, 108, 101] == s.toList)
     · have HS := Lib.hid (hN.out.step [119, 104, 105, 108, 101] rfl e)
       go_wp2
       go_round
       case rel => exact ⟨9, rfl, by omega, HS⟩
       case measure => simp [intOf]
     · have HS := Lib.hid (own_yes 8 rfl e)
       go_wp2
       go_ret
       exact ⟨ret_bool HS.out.symm, (Below.refl _ _).alloc (Nat.le_refl _) _⟩
   · cases e : ([102, 111, 114] == s.toList)
     · have HS := Lib.hid (hN.out.step [102, 111, 114] rfl e)
       go_wp2
       go_round
       case rel => exact ⟨10, rfl, by omega, HS⟩
       case measure => simp [intOf]
     · have HS := Lib.hid (own_yes 9 rfl e)
       go_wp2
       go_ret
       exact ⟨ret_bool HS.out.symm, (Below.refl _ _).alloc (Nat.le_refl _) _⟩
   · cases e : ([112, 105, 99, 107] == s.toList)
     · have HS := Lib.hid (hN.out.step [112, 105, 99, 107] rfl e)
       go_wp2
       go_round
       case rel => exact ⟨11, rfl, by omega, HS⟩
       case measure => simp [intOf]
     · have HS := Lib.hid (own_yes 10 rfl e)
       go_wp2
       go_ret
       exact ⟨ret_bool HS.out.symm, (Below.refl _ _).alloc (Nat.le_refl _) _⟩
   · have HS := Lib.hid hN.out.no
     go_wp2
     go_ret
     exact ⟨ret_bool HS.out.symm, (Below.refl _ _).alloc (Nat.le_refl _) _⟩
   · omega
theorem let_parts (c : UInt8) : isLet c = (!decide ((c.toNat : Int) < 97) && !decide ((122 : Int) < (c.toNat : Int))) := by
 have e1 : decide ((c.toNat : Int) < 97) = !decide (97 ≤ c.toNat) := by rw [Bool.eq_iff_iff]; simp; omega
 have e2 : decide ((122 : Int) < (c.toNat : Int)) = !decide (c.toNat ≤ 122) := by rw [Bool.eq_iff_iff]; simp; omega
 rw [e1, e2]
 simp [isLet]
theorem part_parts2 (c : UInt8) : isPart c = ((decide ((97 : Int) ≤ (c.toNat : Int)) && decide ((c.toNat : Int) ≤ 122)) || (decide ((48 : Int) ≤ (c.toNat : Int)) && decide ((c.toNat : Int) ≤ 57)) || ((c.toNat : Int) == 95)) := by
 have e1 : decide ((97 : Int) ≤ (c.toNat : Int)) = decide (97 ≤ c.toNat) := by rw [Bool.eq_iff_iff]; simp; omega
 have e2 : decide ((c.toNat : Int) ≤ 122) = decide (c.toNat ≤ 122) := by rw [Bool.eq_iff_iff]; simp; omega
 have e3 : decide ((48 : Int) ≤ (c.toNat : Int)) = decide (48 ≤ c.toNat) := by rw [Bool.eq_iff_iff]; simp; omega
 have e4 : decide ((c.toNat : Int) ≤ 57) = decide (c.toNat ≤ 57) := by rw [Bool.eq_iff_iff]; simp; omega
 have e5 : ((c.toNat : Int) == 95) = decide (c.toNat = 95) := by rw [Bool.eq_iff_iff]; simp; omega
 rw [e1, e2, e3, e4, e5]
 simp [isPart, isLet, isDig]
set_option maxHeartbeats 3200000 in
theorem rnm_any (s : ByteArray) (w : World) : Calls Tryz.prog 31 #[.string s] w fun e w' => e = .returned (.bool (nameB s.data.toList)) ∧ Below w.heap.size w w' := by
 by_cases h0 : s.size = 0
 · have h1 : s.data.toList = [] := List.eq_nil_of_length_eq_zero (by rw [← size_len]; exact h0)
   obtain rfl : s = ⟨#[]⟩ := bytes_ext h1
   go_enter Tryz.func31, Tryz.ntmps31
   go_wp2
   go_ret
   exact ⟨rfl, Below.refl _ _⟩
 have hne : s.toList ≠ [] := fun h => h0 (by rw [size_len, ← Go.Lib.toList_data, h]; rfl)
 have e0 : s.toList.isEmpty = false := by cases h : s.toList with | nil => exact absurd h hne | cons _ _ => rfl
 have hpos : 0 < s.size := by omega
 have ez : (((s.size : Nat) : Int) == 0) = false := by rw [beq_eq_false_iff_ne]; omega
 clear h0
 by_cases h16 : 16 < s.size
 · have HF := Lib.hid (name_long (l := s.data.toList) (by rw [← size_len]; exact h16))
   have e16 : decide ((16 : Int) < ((s.size : Nat) : Int)) = true := decide_eq_true (by omega)
   go_enter Tryz.func31, Tryz.ntmps31
   go_wp2
   go_ret
   exact ⟨ret_bool HF.out.symm, Below.refl _ _⟩
 have hlen : 0 < s.data.toList.length := by rw [← size_len]; exact hpos
 have hz : s.size ≤ 16 := by omega
 have e16 : decide ((16 : Int) < ((s.size : Nat) : Int)) = false := decide_eq_false (by omega)
 have hhd : s.data.toList.headD 0 = (s[0]'hpos) := head_get _ hlen
 have HFst := Lib.hid hhd
 have HL := Lib.hid (show isLet (s.data.toList.headD 0) = (!decide (((s[0]'hpos).toNat : Int) < 97) && !decide ((122 : Int) < ((s[0]'hpos).toNat : Int))) by rw [hhd]; exact let_parts (s[0]'hpos))
 clear hlen hhd
 generalize e1 : decide (((s[0]'hpos).toNat : Int) < 97) = b1 at HL
 generalize e2 : decide ((122 : Int) < ((s[0]'hpos).toNat : Int)) = b2 at HL
 cases b1
 case true =>
   have HF := Lib.hid (name_first (l := s.data.toList) HL.out)
   go_enter Tryz.func31, Tryz.ntmps31
   go_wp2
   go_ret
   exact ⟨ret_bool HF.out.symm, Below.refl _ _⟩
 cases b2
 case true =>
   have HF := Lib.hid (name_first (l := s.data.toList) HL.out)
   go_enter Tryz.func31, Tryz.ntmps31
   go_wp2
   go_ret
   exact ⟨ret_bool HF.out.symm, Below.refl _ _⟩
 have HO := Lib.hid (fun w => rown_any s w)
 cases ho : ownB s.data.toList
 case true =>
   have HF := Lib.hid (name_own ho)
   rw [ho] at HO
   clear ho
   go_enter Tryz.func31, Tryz.ntmps31
   go_wp2_with (go_at_call 62; refine (HO.out _).mono ?_; rintro e w1 ⟨rfl, hB1⟩)
   go_ret
   exact ⟨ret_bool HF.out.symm, hB1⟩
 rw [ho] at HO
 have HOw := Lib.hid ho
 clear ho
 go_enter Tryz.func31, Tryz.ntmps31
 go_wp2_with (go_at_call 62; refine (HO.out _).mono ?_; rintro e w1 ⟨rfl, hB1⟩)
 have HB1 := Lib.hid hB1
 clear hB1 e1 e2
 go_loopw [3, 4] (fun i cc wr => ∃ k : Nat, i = .int .i64 k ∧ k ≤ s.size ∧ Hid ((s.data.toList.take k).all isPart = true) ∧ wr = w1) (fun i _ _ => s.size - (intOf i).toNat)
 case atStart => exact ⟨0, rfl, by omega, Lib.hid rfl, rfl⟩
 case round =>
   obtain ⟨k, rfl, hk, hP, rfl⟩ := hrel
   by_cases hlt : k < s.size
   · have HS := Lib.hid (fun h => isPart_take (l := s.data.toList) (k := k) hP.out (by rw [← size_len]; exact hlt) h)
     have HN := Lib.hid (fun h => name_part (l := s.data.toList) (k := k) (by rw [← size_len]; exact hlt) h)
     have hg : s.data.toList[k]'(by rw [← size_len]; exact hlt) = s[k]'hlt := rfl
     rw [hg] at HS HN
     clear hg
     have hPt := part_parts2 (s[k]'hlt)
     rw [hPt] at HS HN
     clear hPt
     generalize e1 : decide ((97 : Int) ≤ ((s[k]'hlt).toNat : Int)) = a at *
     generalize e2 : decide (((s[k]'hlt).toNat : Int) ≤ 122) = b at *
     generalize e3 : decide ((48 : Int) ≤ ((s[k]'hlt).toNat : Int)) = c at *
     generalize e4 : decide (((s[k]'hlt).toNat : Int) ≤ 57) = d at *
     generalize e5 : (((s[k]'hlt).toNat : Int) == 95) = f at *
     have hk' : k + 1 ≤ s.size := hlt
     cases a <;> cases b <;> cases c <;> cases d <;> cases f <;>
     first
       | (have HF := Lib.hid (HN.out rfl)
          clear HN HS
          go_wp2
          go_ret
          exact ⟨ret_bool HF.out.symm, HB1.out⟩)
       | (have HT := Lib.hid (HS.out rfl)
          clear HN HS
          go_wp2
          go_roundw
          case rel => exact ⟨k + 1, by go_num, hk', HT, trivial⟩
          case measure => simp [intOf]; omega)
   · obtain rfl : k = s.size := by omega
     have HF := Lib.hid (name_yes (l := s.data.toList) (by rw [← size_len]; exact hpos) (by rw [← size_len]; exact hz) (by rw [HL.out]; rfl) HOw.out (by rw [← size_len]; exact hP.out))
     go_wp2
     go_ret
     exact ⟨ret_bool HF.out.symm, HB1.out⟩
/- The document's May. -/
open Go.RowKit

theorem fnc_few (y : Fnc) : y.few = (!decide (64 < (y.params ++ y.vars).length) && !decide (64 < y.rets.length) && (y.params ++ y.vars).all Vr.few) := by
 have e1 : fewB ((y.params.length : Int) + (y.vars.length : Int)) 0 64 = !decide (64 < (y.params ++ y.vars).length) := by
   rw [Bool.eq_iff_iff]; simp [fewB]; omega
 have e2 : fewB (y.rets.length : Int) 0 64 = !decide (64 < y.rets.length) := by
   rw [Bool.eq_iff_iff]; simp [fewB]; try omega
 unfold Fnc.few
 rw [e1, e2, List.all_append]
 simp only [Bool.and_assoc]
theorem vr_few (v : Vr) : v.few = !(((v.kind == 2) || (v.kind == 3)) && (decide (v.size < 1) || decide (512 < v.size))) := by
 unfold Vr.few
 rw [few_lt]
 cases (v.kind == 2) <;> cases (v.kind == 3) <;> cases decide (v.size < 1) <;> cases decide (512 < v.size) <;> rfl
theorem own_nil0 (w : World) (B : Nat) : OwnS w B (.slice none 0 0) [] := World.ownsRow_nil _ _ _ _
theorem loc_eq (v : Vr) : v.loc = !((decide (v.kind < 1) || decide (3 < v.kind)) || ((v.kind == 1) && ((v.size != 0) || v.secret))) := by
 unfold Vr.loc
 by_cases h1 : v.kind = 1
 · rw [if_pos (by simpa using h1), h1]; simp [bne]
 · rw [if_neg (by simpa using h1), show (v.kind == 1) = false by simpa using h1, Bool.eq_iff_iff]; simp; omega
theorem src_one {W : World} {g : Nat} {nm : List UInt8} {t : TypeId} (k : W.heap[g]? = some (.cells #[.string (str nm)] t (0, 0))) : Src W 1 (some ⟨g, 0, none⟩) 1 [.string (str nm)] :=
 ⟨rfl, .inr ⟨_, _, rfl, fun j u hu => by
   rcases j with _ | j
   · cases hu; exact cell_blk k rfl
   · simp at hu⟩⟩
theorem one_oc (nm : List UInt8) : ∀ u ∈ [Value.string (str nm)], u.oneCell' = true := by intro u hu; simp at hu; subst hu; rfl
theorem nm_eq (nm : List UInt8) (w : World) : Calls Tryz.prog 31 #[.string (str nm)] w fun e w' => e = .returned (.bool (nameB nm)) ∧ Below w.heap.size w w' := rnm_any (str nm) w
theorem rnm_snoc (l : List Rgn) (y : Rgn) : rnm (l ++ [y]) = rnm l ++ [y.name] := by simp [rnm]
theorem fnm_snoc (l : List Fnc) (y : Fnc) : fnm (l ++ [y]) = fnm l ++ [y.name] := by simp [fnm]
theorem vnm_snoc (l : List Vr) (y : Vr) : vnm (l ++ [y]) = vnm l ++ [y.name] := by simp [vnm]
theorem rnm_len (l : List Rgn) : (rnm l).length = l.length := by simp [rnm]
theorem var_word {x : Prg} {f : Fnc} {l : List Vr} (hl : l = f.params ++ f.vars) (h1 : newB nz (rnm x.regs ++ vnm l) = true) (h2 : newB nz f.rets = true) (h3 : f.rets.all (fun s => l.any (isWord s)) = true) : varN x f = true := by
 subst hl; unfold varN; rw [h1, h2, h3]; rfl
end Go.Proofs.YtihmibggonffdaaGreat
