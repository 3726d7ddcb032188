/- The document's: why statements may not be. -/
import Derived.Test.YtihmibggonffdaaGreatDA
import Derived.Test.YtihmibggonffdaaGreatF1
import Derived.Test.YtihmibggonffdaaGreatK2
namespace Go.Proofs.YtihmibggonffdaaGreat
open Go.RowKit

theorem Exs.chk_len {x : Prg} {fn : Fnc} {l : Exs} {deep : Nat} (h : l.len = 0) : l.chk x fn deep = 0 := by cases l with | nil => rw [Exs.chk] | cons => simp [Exs.len] at h
theorem Sts.chk_len {x : Prg} {fn : Fnc} {f : List UInt8 → Nat} {fi : Nat} {l : Sts} {deep : Nat} {ar : List (List UInt8)} (h : l.len = 0) : l.chk x fn f fi deep ar = 0 := by cases l with | nil => rw [Sts.chk] | cons => simp [Sts.len] at h
theorem seq_zero (a : Nat) : seq a 0 = a := by unfold seq; split <;> omega
theorem zero_seq (a : Nat) : seq 0 a = a := rfl
theorem own_parts {y : St} (h : ownP y = true) : (y.kind = 1 ∨ y.kind = 2 ∨ y.kind = 3 ∨ y.kind = 4 ∨ y.kind = 5 ∨ y.kind = 6) ∧ (y.kind = 1 ∨ y.kind = 2 → y.args.len = 0 ∧ y.body.len = 0 ∧ y.els.len = 0) ∧ (y.kind = 3 ∨ y.kind = 4 → y.args.len = 0) ∧ (y.kind = 5 → y.args.len = 0 ∧ y.els.len = 0) ∧ (y.kind = 6 → y.body.len = 0 ∧ y.els.len = 0) := by
 unfold ownP ownK zstB at h
 by_cases h2 : y.kind = 2
 · rw [if_pos h2] at h; simp at h; omega
 rw [if_neg h2] at h
 by_cases h1 : y.kind = 1
 · rw [if_pos h1] at h; simp at h; omega
 rw [if_neg h1] at h
 by_cases h3 : y.kind = 3
 · rw [if_pos h3] at h; simp at h; omega
 rw [if_neg h3] at h
 by_cases h4 : y.kind = 4
 · rw [if_pos h4] at h; simp at h; omega
 rw [if_neg h4] at h
 by_cases h5 : y.kind = 5
 · rw [if_pos h5] at h; simp at h; omega
 rw [if_neg h5] at h
 by_cases h6 : y.kind = 6
 · rw [if_pos h6] at h; simp at h; omega
 rw [if_neg h6] at h
 cases h
section
variable {x : Prg} {fn : Fnc} {f : List UInt8 → Nat} {fi : Nat} {y : St} {deep : Nat} {ar : List (List UInt8)} {R : Nat}
theorem chk_1 (hR : R = seq (headS x fn f fi ar y) (partsR x fn f fi y deep ar)) (hk : y.kind = 1) (ho : ownP y = true) : R = seq (wordR x fn y.name) (seq (ask (decide (f y.name = 0)) 2) (y.e.chk x fn deep)) := by
 obtain ⟨_, h, _⟩ := own_parts ho
 obtain ⟨h1, h2, h3⟩ := h (.inl hk)
 rw [hR]
 unfold headS partsR restR setR
 rw [if_pos hk, if_neg (by omega), if_pos (.inl hk), Exs.chk_len h1, Sts.chk_len h2, Sts.chk_len h3]
 simp only [seq_assoc, seq_zero, zero_seq]
theorem chk_2 (hR : R = seq (headS x fn f fi ar y) (partsR x fn f fi y deep ar)) (hk : y.kind = 2) (ho : ownP y = true) : R = seq (arrayR x fn y.name) (seq (y.a.chk x fn deep) (y.e.chk x fn deep)) := by
 obtain ⟨_, h, _⟩ := own_parts ho
 obtain ⟨h1, h2, h3⟩ := h (.inr hk)
 rw [hR]
 unfold headS partsR restR
 rw [if_neg (by omega), if_pos hk, if_pos hk, if_pos (.inr (.inl hk)), Exs.chk_len h1, Sts.chk_len h2, Sts.chk_len h3]
 simp only [seq_zero]
theorem chk_3 (hR : R = seq (headS x fn f fi ar y) (partsR x fn f fi y deep ar)) (hk : y.kind = 3 ∨ y.kind = 4) (ho : ownP y = true) : R = seq (y.e.chk x fn deep) (seq (y.body.chk x fn f fi (deep + 1) ar) (y.els.chk x fn f fi (deep + 1) ar)) := by
 obtain ⟨_, _, h, _⟩ := own_parts ho
 rw [hR]
 unfold headS partsR restR arOf
 rw [if_neg (by omega), if_neg (by omega), if_neg (by omega), if_neg (by omega), if_neg (by omega), if_pos (by omega), Exs.chk_len (h hk), if_neg (by omega)]
 simp only [zero_seq]
theorem chk_5 (hR : R = seq (headS x fn f fi ar y) (partsR x fn f fi y deep ar)) (hk : y.kind = 5) (ho : ownP y = true) : R = seq (wordR x fn y.name) (seq (ask (!((((ar.any (fun z => z == y.name) || decide ((y.high : Int) < (y.low : Int))) || decide ((65536 : Int) < (y.high : Int))) || fn.rets.any (fun z => z == y.name)) || fn.params.any (named y.name))) 2) (y.body.chk x fn f fi (deep + 1) (ar ++ [y.name]))) := by
 obtain ⟨_, _, _, h, _⟩ := own_parts ho
 obtain ⟨h1, h2⟩ := h hk
 have e1 : decide ((y.low : Int) ≤ (y.high : Int)) = !decide ((y.high : Int) < (y.low : Int)) := by rw [Bool.eq_iff_iff]; simp
 have e2 : decide ((y.high : Int) ≤ 65536) = !decide ((65536 : Int) < (y.high : Int)) := by rw [Bool.eq_iff_iff]; simp
 rw [hR]
 unfold headS partsR restR arOf loopR loopA loopB loopC loopD
 rw [if_neg (by omega), if_neg (by omega), if_pos hk, if_neg (by omega), if_neg (by omega), if_pos hk, Exs.chk_len h1, Sts.chk_len h2, e1, e2]
 simp only [zero_seq, seq_zero, seq_assoc, pl0]
 cases ar.any (fun z => z == y.name) <;> cases decide ((y.high : Int) < (y.low : Int)) <;> cases decide ((65536 : Int) < (y.high : Int)) <;> cases fn.rets.any (fun z => z == y.name) <;> cases fn.params.any (named y.name) <;> rfl
theorem chk_6 (hR : R = seq (headS x fn f fi ar y) (partsR x fn f fi y deep ar)) (hk : y.kind = 6) (ho : ownP y = true) : R = rcallR x fn f fi y deep := by
 obtain ⟨_, _, _, _, h⟩ := own_parts ho
 obtain ⟨h1, h2⟩ := h hk
 rw [hR]
 unfold headS partsR restR rcallR
 rw [if_neg (by omega), if_neg (by omega), if_neg (by omega), if_pos hk, if_neg (by omega), if_neg (by omega), Sts.chk_len h1, Sts.chk_len h2]
 simp only [seq_zero, zero_seq]
 rfl
end
theorem St.body_size (y : St) : y.body.size < y.size ∧ y.els.size < y.size := by obtain ⟨kd, nm, ns, e, a, as', lo, hi, bd, el⟩ := y; rw [St.size]; simp only [St.body, St.els]; omega
structure Env (w : World) (N : Nat) (x : Prg) (s : PrgP) (fi : Nat) (fn : Fnc) (f : List UInt8 → Nat) (cts : List (List UInt8)) (pc : Option Addr) : Prop where
 ok : x.Ok w N s.p s.q
 hN : N ≤ w.heap.size
 hi : x.fns[fi]? = some fn
 big : fn.params.length + fn.vars.length ≤ 4000000
 hc : RowIn w.heap.size (StrAt w) 1 cts pc
 cf : CtsIs cts f
theorem Env.later {w w' : World} {N : Nat} {x : Prg} {s : PrgP} {fi : Nat} {fn : Fnc} {f : List UInt8 → Nat} {cts : List (List UInt8)} {pc : Option Addr} (h : Env w N x s fi fn f cts pc) (hB : Below w.heap.size w w') : Env w' N x s fi fn f cts pc :=
 ⟨h.ok.later (hB.mono h.hN) (Nat.le_refl N), Nat.le_trans h.hN hB.size, h.hi, h.big, h.hc.imp hB.size (StrAt.later hB), h.cf⟩
def RI (n : Nat) : Prop := ∀ (l : Sts), l.size < n → ∀ (x : Prg) (s : PrgP) (fi : Nat) (fn : Fnc) (f : List UInt8 → Nat) (cts : List (List UInt8)) (pc : Option Addr) (cc N : Nat) (ar : List (List UInt8)) (pr : Option Addr) (cr deep : Nat) (p : Option Addr) (c : Nat) (w : World),
   Env w N x s fi fn f cts pc → RowIn w.heap.size (StrAt w) 1 ar pr → ar.length ≤ deep → deep ≤ 65 → l.In w N p →
   Calls Tryz.prog 63 #[x.v s, .int .i64 (fi : Int), .slice p l.len c, .int .i64 (deep : Int), .slice pr ar.length cr, .slice pc cts.length cc] w fun z w' => z = .returned (.int .i64 (l.chk x fn f fi deep ar : Nat)) ∧ Below w.heap.size w w'
set_option maxRecDepth 100000 in
set_option maxHeartbeats 12800000 in
theorem rstmt_any (y : St) (ih : RI y.size) (x : Prg) (s : PrgP) (fi : Nat) (fn : Fnc) (f : List UInt8 → Nat) (cts : List (List UInt8)) (pc : Option Addr) (cc N : Nat) (ar : List (List UInt8)) (pr : Option Addr) (cr deep : Nat) (sp : StP) (w : World)
   (h : Env w N x s fi fn f cts pc) (har : RowIn w.heap.size (StrAt w) 1 ar pr) (hal : ar.length ≤ deep) (hdeep : deep ≤ 65) (hy : y.Ok w N sp) :
   Calls Tryz.prog 90 #[x.v s, .int .i64 (fi : Int), y.val sp, .int .i64 (deep : Int), .slice pr ar.length cr, .slice pc cts.length cc] w fun z w' => z = .returned (.int .i64 (y.chk x fn f fi deep ar : Nat)) ∧ Below w.heap.size w w' := by
 obtain ⟨i0, hi0, hz0', hz1, hz2⟩ := info_parts infoStr
 obtain ⟨pp, pq, c, d⟩ := s
 obtain ⟨pn, pe, pa, pg, pb, pl, cn, ce, ca, cg, cb, cl⟩ := sp
 obtain ⟨sp', hsp⟩ : ∃ sp' : StP, sp' = ⟨pn, pe, pa, pg, pb, pl, cn, ce, ca, cg, cb, cl⟩ := ⟨_, rfl⟩
 obtain ⟨A, hA⟩ : ∃ A, y.cells ⟨pn, pe, pa, pg, pb, pl, cn, ce, ca, cg, cb, cl⟩ = A := ⟨_, rfl⟩
 obtain ⟨W0, hW0, k0, k1, hB0, hz0⟩ := two_alloc w (.cells #[.slice pp x.regs.length c, .slice pq x.fns.length d] 25) (.cells A 45)
 have HSz := Lib.hid (show A.size = 16 by rw [← hA]; rfl)
 have HI := Lib.hid (infoSt.trans (by rw [HSz.out]) : (Tryz.prog.info? 45).map (·.size) = some A.size)
 have HU := Lib.hid (fun (W : World) (hB : Below W0.heap.size W0 W) => show Below w.heap.size w W from hB0.trans (hB.mono (by omega)))
 have HRg := Lib.hid (fun (W : World) (hB : Below W0.heap.size W0 W) => show W.rangeAt (w.heap.size + 1) 0 A.toList from fun j v hv => cell_blk ((hB.block _ (lt_blk k1)).trans k1) (by rw [Nat.zero_add, ← Array.getElem?_toList]; exact hv))
 have HP := Lib.hid (fun (W : World) (hB : Below W0.heap.size W0 W) => show W.cell? ⟨w.heap.size, 0, none⟩ = some (.slice pp x.regs.length c) ∧ W.cell? ⟨w.heap.size, 1, none⟩ = some (.slice pq x.fns.length d) from
   ⟨cell_blk ((hB.block _ (lt_blk k0)).trans k0) rfl, cell_blk ((hB.block _ (lt_blk k0)).trans k0) rfl⟩)
 have HC := Lib.hid (fun (W : World) (hB : Below W0.heap.size W0 W) (j : Nat) (v : Value) (hv : A[j]? = some v) => show W.cell? ⟨w.heap.size + 1, j, none⟩ = some v from cell_blk ((hB.block _ (lt_blk k1)).trans k1) hv)
 have C0 := Lib.hid (fun (W : World) (hB : Below W0.heap.size W0 W) => show W.cell? ⟨w.heap.size + 1, 0, none⟩ = some (.int .i64 y.kind) from HC.out W hB 0 _ (by rw [← hA]; rfl))
 have C1 := Lib.hid (fun (W : World) (hB : Below W0.heap.size W0 W) => show W.cell? ⟨w.heap.size + 1, 1, none⟩ = some (.string (str y.name)) from HC.out W hB 1 _ (by rw [← hA]; rfl))
 have C3 := Lib.hid (fun (W : World) (hB : Below W0.heap.size W0 W) => show W.cell? ⟨w.heap.size + 1, 3, none⟩ = some (.int .i64 y.e.op) from HC.out W hB 3 _ (by rw [← hA]; rfl))
 have C4 := Lib.hid (fun (W : World) (hB : Below W0.heap.size W0 W) => show W.cell? ⟨w.heap.size + 1, 4, none⟩ = some (.int .u64 (y.e.word : Int)) from HC.out W hB 4 _ (by rw [← hA]; rfl))
 have C5 := Lib.hid (fun (W : World) (hB : Below W0.heap.size W0 W) => show W.cell? ⟨w.heap.size + 1, 5, none⟩ = some (.string (str y.e.name)) from HC.out W hB 5 _ (by rw [← hA]; rfl))
 have C6 := Lib.hid (fun (W : World) (hB : Below W0.heap.size W0 W) => show W.cell? ⟨w.heap.size + 1, 6, none⟩ = some (.slice pe y.e.args.len ce) from HC.out W hB 6 _ (by rw [← hA]; rfl))
 have C7 := Lib.hid (fun (W : World) (hB : Below W0.heap.size W0 W) => show W.cell? ⟨w.heap.size + 1, 7, none⟩ = some (.int .i64 y.a.op) from HC.out W hB 7 _ (by rw [← hA]; rfl))
 have C8 := Lib.hid (fun (W : World) (hB : Below W0.heap.size W0 W) => show W.cell? ⟨w.heap.size + 1, 8, none⟩ = some (.int .u64 (y.a.word : Int)) from HC.out W hB 8 _ (by rw [← hA]; rfl))
 have C9 := Lib.hid (fun (W : World) (hB : Below W0.heap.size W0 W) => show W.cell? ⟨w.heap.size + 1, 9, none⟩ = some (.string (str y.a.name)) from HC.out W hB 9 _ (by rw [← hA]; rfl))
 have C10 := Lib.hid (fun (W : World) (hB : Below W0.heap.size W0 W) => show W.cell? ⟨w.heap.size + 1, 10, none⟩ = some (.slice pa y.a.args.len ca) from HC.out W hB 10 _ (by rw [← hA]; rfl))
 have C12 := Lib.hid (fun (W : World) (hB : Below W0.heap.size W0 W) => show W.cell? ⟨w.heap.size + 1, 12, none⟩ = some (.int .u64 (y.low : Int)) from HC.out W hB 12 _ (by rw [← hA]; rfl))
 have C13 := Lib.hid (fun (W : World) (hB : Below W0.heap.size W0 W) => show W.cell? ⟨w.heap.size + 1, 13, none⟩ = some (.int .u64 (y.high : Int)) from HC.out W hB 13 _ (by rw [← hA]; rfl))
 have C14 := Lib.hid (fun (W : World) (hB : Below W0.heap.size W0 W) => show W.cell? ⟨w.heap.size + 1, 14, none⟩ = some (.slice pb y.body.len cb) from HC.out W hB 14 _ (by rw [← hA]; rfl))
 have C15 := Lib.hid (fun (W : World) (hB : Below W0.heap.size W0 W) => show W.cell? ⟨w.heap.size + 1, 15, none⟩ = some (.slice pl y.els.len cl) from HC.out W hB 15 _ (by rw [← hA]; rfl))
 have HSh := Lib.hid (fun (W : World) (hB : Below w.heap.size w W) => rshape_any y ⟨pn, pe, pa, pg, pb, pl, cn, ce, ca, cg, cb, cl⟩ N W (hy.later (hB.mono h.hN) (Nat.le_refl N)))
 have HWd := Lib.hid (fun (W : World) (hB : Below w.heap.size w W) => rword_any x ⟨pp, pq, c, d⟩ fi fn y.name N W (h.later hB).ok (h.later hB).hN h.hi h.big)
 have HAr := Lib.hid (fun (W : World) (hB : Below w.heap.size w W) => rarray_any x ⟨pp, pq, c, d⟩ fi fn y.name N W (h.later hB).ok (h.later hB).hN h.hi h.big)
 have HHc := Lib.hid (fun (W : World) (hB : Below w.heap.size w W) => rhas_any cts y.name pc cc W.heap.size W (h.later hB).hc)
 have HHa := Lib.hid (fun (W : World) (hB : Below w.heap.size w W) => rhas_any ar y.name pr cr W.heap.size W (har.imp hB.size (StrAt.later hB)))
 have HEe := Lib.hid (fun (W : World) (hB : Below w.heap.size w W) => rexpr_to _ y.e (Nat.lt_succ_self _) x ⟨pp, pq, c, d⟩ fi fn deep pe ce N W (h.later hB).ok (h.later hB).hN h.hi h.big (hy.2.1.later (hB.mono h.hN) (Nat.le_refl N)) hdeep)
 have HEa := Lib.hid (fun (W : World) (hB : Below w.heap.size w W) => rexpr_to _ y.a (Nat.lt_succ_self _) x ⟨pp, pq, c, d⟩ fi fn deep pa ca N W (h.later hB).ok (h.later hB).hN h.hi h.big (hy.2.2.1.later (hB.mono h.hN) (Nat.le_refl N)) hdeep)
 have HBd := Lib.hid (fun (W : World) (ar' : List (List UInt8)) (pr' : Option Addr) (cr' : Nat) (hB : Below w.heap.size w W) (h1 : RowIn W.heap.size (StrAt W) 1 ar' pr') (h2 : ar'.length ≤ deep + 1) (h3 : deep ≤ 64) => ih y.body y.body_size.1 x ⟨pp, pq, c, d⟩ fi fn f cts pc cc N ar' pr' cr' (deep + 1) pb cb W (h.later hB) h1 h2 (by omega) (hy.2.2.2.2.1.later (hB.mono h.hN) (Nat.le_refl N)))
 have HEl := Lib.hid (fun (W : World) (ar' : List (List UInt8)) (pr' : Option Addr) (cr' : Nat) (hB : Below w.heap.size w W) (h1 : RowIn W.heap.size (StrAt W) 1 ar' pr') (h2 : ar'.length ≤ deep + 1) (h3 : deep ≤ 64) => ih y.els y.body_size.2 x ⟨pp, pq, c, d⟩ fi fn f cts pc cc N ar' pr' cr' (deep + 1) pl cl W (h.later hB) h1 h2 (by omega) (hy.2.2.2.2.2.1.later (hB.mono h.hN) (Nat.le_refl N)))
 have HCa := Lib.hid (fun (W : World) (hB : Below w.heap.size w W) => rcall_any x ⟨pp, pq, c, d⟩ fi fn f y ⟨pn, pe, pa, pg, pb, pl, cn, ce, ca, cg, cb, cl⟩ deep cts pc cc N W (h.later hB).ok (h.later hB).hN h.hi h.big (hy.later (hB.mono h.hN) (Nat.le_refl N)) hdeep (h.later hB).hc h.cf)
 have HAr2 := Lib.hid (fun (W : World) (hB : Below w.heap.size w W) => har.imp hB.size (StrAt.later hB))
 have HCF := Lib.hid (h.cf y.name)
 obtain ⟨b', o', hq, hb', ha'⟩ := Row.start h.ok.2
 obtain ⟨⟨fp, fv, fr, fb, fcp, fcv, fcr, fcb⟩, e0, e1, e2, e3, e4, hokf⟩ := Fnc.At.all (Row.get ha' h.hi)
 have hil : fi < x.fns.length := (List.getElem?_eq_some_iff.1 h.hi).1
 have hmf := h.ok.2.1
 have hpq : pq = some ⟨b', o', none⟩ := by
   rcases hq with h0 | h0
   · omega
   · exact h0
 have hbw : b' < w.heap.size := by have := h.hN; omega
 have HFc := Lib.hid (fun (W : World) (hB : Below w.heap.size w W) => show W.cell? ⟨b', o' + fi * 5, none⟩ = some (.string (str fn.name)) ∧ W.cell? ⟨b', o' + fi * 5 + 1, none⟩ = some (.slice fp fn.params.length fcp) ∧ W.cell? ⟨b', o' + fi * 5 + 2, none⟩ = some (.slice fv fn.vars.length fcv) ∧ W.cell? ⟨b', o' + fi * 5 + 3, none⟩ = some (.slice fr fn.rets.length fcr) ∧ W.cell? ⟨b', o' + fi * 5 + 4, none⟩ = some (.slice fb fn.body.len fcb) from
   ⟨(hB.cell (p := ⟨b', _, none⟩) hbw).trans e0, (hB.cell (p := ⟨b', _, none⟩) hbw).trans e1, (hB.cell (p := ⟨b', _, none⟩) hbw).trans e2, (hB.cell (p := ⟨b', _, none⟩) hbw).trans e3, (hB.cell (p := ⟨b', _, none⟩) hbw).trans e4⟩)
 have HHr := Lib.hid (fun (W : World) (hB : Below w.heap.size w W) => rhas_any fn.rets y.name fr fcr N W (hokf.2.2.1.2.imp (Nat.le_refl N) (StrAt.later (hB.mono h.hN))))
 have HPm := Lib.hid (fun (W : World) (hB : Below w.heap.size w W) => rparams_any fn ⟨fp, fv, fr, fb, fcp, fcv, fcr, fcb⟩ y.name N W (hokf.later (hB.mono h.hN) (Nat.le_refl N)) (h.later hB).hN)
 have HEq := Lib.hid (St.chk_eq x fn f fi y deep ar)
 generalize y.chk x fn f fi deep ar = R at HEq ⊢
 have HB0 := Lib.hid hB0
 have HW0 := Lib.hid hW0
 obtain ⟨d1, hd1⟩ : ∃ d1, d1 = deep + 1 := ⟨_, rfl⟩
 have hwd : IntKind.i64.wrap ((deep : Int) + 1) = ((d1 : Nat) : Int) := by rw [hd1]; simp [IntKind.wrap, IntKind.bits, IntKind.signed]; omega
 have HD1 := Lib.hid hd1
 rw [← hd1] at HBd HEl
 unfold Prg.v St.val
 rw [hA]
 unfold St.val at HCa
 rw [hA] at HSh HCa
 unfold Prg.v at HWd HAr HEe HEa HBd HEl HCa
 unfold Ex.val at HEe HEa
 unfold Fnc.v at HPm
 clear hW0 k0 k1 hB0 hz0 h hy har hb' ha' hq e0 e1 e2 e3 e4 hokf hd1 ih hsp HC hA
 subst hpq
 obtain ⟨p0, p1⟩ := HP.out _ (Below.refl _ _)
 go_enter Tryz.func90, Tryz.ntmps90
 go_upto_region 1 with fail
 rw [HW0.out]
 by_cases hd : deep ≤ 64
 rotate_left
 · have HV := Lib.hid (show 12 = R by rw [HEq.out, show decide (deep ≤ 64) = false from decide_eq_false hd]; rfl)
   have hdi : decide ((64 : Int) < (deep : Int)) = true := decide_eq_true (by omega)
   go_wp2_with fail
   go_ret
   exact ⟨by rw [← HV.out]; rfl, HB0.out⟩
 have R1 := Lib.hid (show R = seq (ask (ownP y) 9) (seq (headS x fn f fi ar y) (partsR x fn f fi y deep ar)) by rw [HEq.out, show decide (deep ≤ 64) = true from decide_eq_true hd]; rfl)
 have hdi : decide ((64 : Int) < (deep : Int)) = false := decide_eq_false (by omega)
 have HD := Lib.hid hd
 have HR0 := Lib.hid (HRg.out _ (Below.refl _ _))
 have HSh1 := Lib.hid (HSh.out _ HB0.out)
 clear HEq hd
 go_wp2_with (refine wpl_load rfl 45 _ rfl (w.heap.size + 1) 0 rfl A _ HR0.out Tryz.underlying45 rfl HI.out ?_)
 refine HSh1.out.mono ?_
 rintro z w1 ⟨rfl, hB1⟩
 have HB1 := Lib.hid (show Below W0.heap.size W0 w1 from hB1)
 have HEnd := Lib.hid (fun (v : Nat) (W : World) (hv : v = R) (hB : Below W0.heap.size W0 W) => show Ending.returned (.int .i64 (v : Int)) = .returned (.int .i64 (R : Nat)) ∧ Below w.heap.size w W from ⟨by rw [hv], HU.out W hB⟩)
 clear hB1 HSh1 HSh p0 p1 HR0 hdi
 cases ho : ownP y with
 | false =>
   have HV := Lib.hid (HEnd.out 9 w1 (by rw [R1.out, ho]; rfl) HB1.out)
   go_wp2_with fail
   go_ret
   exact HV.out
 | true =>
 have R2 := Lib.hid (show R = seq (headS x fn f fi ar y) (partsR x fn f fi y deep ar) by rw [R1.out, ho]; rfl)
 have HOw := Lib.hid ho
 have hk6 := (own_parts ho).1
 have q0 := C0.out _ HB1.out
 obtain ⟨kd, hkd⟩ : ∃ kd, y.kind = kd := ⟨_, rfl⟩
 have HKd := Lib.hid hkd
 rw [hkd] at hk6 q0
 clear ho R1 C0 hkd
 rcases hk6 with rfl | rfl | rfl | rfl | rfl | rfl
 · have K1 := Lib.hid (chk_1 R2.out HKd.out HOw.out)
   obtain ⟨p0, p1⟩ := HP.out _ HB1.out
   have q1 := C1.out _ HB1.out
   have HC2 := Lib.hid (HWd.out _ (HU.out _ HB1.out))
   generalize wordR x fn y.name = u1 at HC2 K1
   go_wp2_with fail
   refine HC2.out.mono ?_
   rintro z v2 ⟨rfl, hBn⟩
   have HB2 := Lib.hid (HB1.out.trans (hBn.mono HB1.out.size))
   clear hBn HC2 p0 p1 q1 q0
   by_cases hu1 : u1 = 0
   rotate_left
   · have hvi : ((u1 : Int) == 0) = false := by rw [beq_eq_false_iff_ne]; omega
     have HV := Lib.hid (HEnd.out u1 _ (by rw [K1.out, seq_no hu1]) HB2.out)
     go_wp2_with fail
     go_ret
     exact HV.out
   subst hu1
   have K2 := Lib.hid (show R = seq (ask (decide (f y.name = 0)) 2) (y.e.chk x fn deep) by rw [K1.out]; rfl)
   have q1 := C1.out _ HB2.out
   have HC3 := Lib.hid (HHc.out _ (HU.out _ HB2.out))
   obtain ⟨q, hqq⟩ : ∃ q, q = cts.any (fun z => z == y.name) := ⟨_, rfl⟩
   rw [← hqq] at HCF HC3
   clear hqq
   go_wp2_with fail
   refine HC3.out.mono ?_
   rintro z v3 ⟨rfl, hw⟩
   subst hw
   clear HC3 q1
   cases q
   · have K3 := Lib.hid (show R = y.e.chk x fn deep by have h := HCF.out; rw [K2.out, show decide (f y.name = 0) = true by simpa using h]; rfl)
     obtain ⟨p0, p1⟩ := HP.out _ HB2.out
     have q3 := C3.out _ HB2.out
     have q4 := C4.out _ HB2.out
     have q5 := C5.out _ HB2.out
     have q6 := C6.out _ HB2.out
     have HC4 := Lib.hid (HEe.out _ (HU.out _ HB2.out))
     generalize y.e.chk x fn deep = u2 at HC4 K3
     go_wp2_with fail
     refine HC4.out.mono ?_
     rintro z v4 ⟨rfl, hBn⟩
     have HB4 := Lib.hid (HB2.out.trans (hBn.mono HB2.out.size))
     clear hBn HC4 p0 p1 q3 q4 q5 q6
     have HV := Lib.hid (HEnd.out u2 _ (K3.out.symm) HB4.out)
     go_wp2_with fail
     go_ret
     exact HV.out
   · skip
     have HV := Lib.hid (HEnd.out 2 _ (by have h := HCF.out; rw [K2.out, show decide (f y.name = 0) = false by simpa using h]; rfl) HB2.out)
     go_wp2_with fail
     go_ret
     exact HV.out
 · have K1 := Lib.hid (chk_2 R2.out HKd.out HOw.out)
   obtain ⟨p0, p1⟩ := HP.out _ HB1.out
   have q1 := C1.out _ HB1.out
   have HC5 := Lib.hid (HAr.out _ (HU.out _ HB1.out))
   generalize arrayR x fn y.name = u1 at HC5 K1
   go_wp2_with fail
   refine HC5.out.mono ?_
   rintro z v5 ⟨rfl, hBn⟩
   have HB5 := Lib.hid (HB1.out.trans (hBn.mono HB1.out.size))
   clear hBn HC5 p0 p1 q1 q0
   by_cases hu1 : u1 = 0
   rotate_left
   · have hvi : ((u1 : Int) == 0) = false := by rw [beq_eq_false_iff_ne]; omega
     have HV := Lib.hid (HEnd.out u1 _ (by rw [K1.out, seq_no hu1]) HB5.out)
     go_wp2_with fail
     go_ret
     exact HV.out
   subst hu1
   have K2 := Lib.hid (show R = seq (y.a.chk x fn deep) (y.e.chk x fn deep) by rw [K1.out]; rfl)
   obtain ⟨p0, p1⟩ := HP.out _ HB5.out
   have q7 := C7.out _ HB5.out
   have q8 := C8.out _ HB5.out
   have q9 := C9.out _ HB5.out
   have q10 := C10.out _ HB5.out
   have HC6 := Lib.hid (HEa.out _ (HU.out _ HB5.out))
   generalize y.a.chk x fn deep = u2 at HC6 K2
   go_wp2_with fail
   refine HC6.out.mono ?_
   rintro z v6 ⟨rfl, hBn⟩
   have HB6 := Lib.hid (HB5.out.trans (hBn.mono HB5.out.size))
   clear hBn HC6 p0 p1 q7 q8 q9 q10
   by_cases hu2 : u2 = 0
   rotate_left
   · have hvi : ((u2 : Int) == 0) = false := by rw [beq_eq_false_iff_ne]; omega
     have HV := Lib.hid (HEnd.out u2 _ (by rw [K2.out, seq_no hu2]) HB6.out)
     go_wp2_with fail
     go_ret
     exact HV.out
   subst hu2
   have K3 := Lib.hid (show R = y.e.chk x fn deep by rw [K2.out]; rfl)
   obtain ⟨p0, p1⟩ := HP.out _ HB6.out
   have q3 := C3.out _ HB6.out
   have q4 := C4.out _ HB6.out
   have q5 := C5.out _ HB6.out
   have q6 := C6.out _ HB6.out
   have HC7 := Lib.hid (HEe.out _ (HU.out _ HB6.out))
   generalize y.e.chk x fn deep = u3 at HC7 K3
   go_wp2_with fail
   refine HC7.out.mono ?_
   rintro z v7 ⟨rfl, hBn⟩
   have HB7 := Lib.hid (HB6.out.trans (hBn.mono HB6.out.size))
   clear hBn HC7 p0 p1 q3 q4 q5 q6
   have HV := Lib.hid (HEnd.out u3 _ (K3.out.symm) HB7.out)
   go_wp2_with fail
   go_ret
   exact HV.out
 · have K1 := Lib.hid (chk_3 R2.out (.inl HKd.out) HOw.out)
   rw [← HD1.out] at K1
   obtain ⟨p0, p1⟩ := HP.out _ HB1.out
   have q3 := C3.out _ HB1.out
   have q4 := C4.out _ HB1.out
   have q5 := C5.out _ HB1.out
   have q6 := C6.out _ HB1.out
   have HC8 := Lib.hid (HEe.out _ (HU.out _ HB1.out))
   generalize y.e.chk x fn deep = u1 at HC8 K1
   go_wp2_with fail
   refine HC8.out.mono ?_
   rintro z v8 ⟨rfl, hBn⟩
   have HB8 := Lib.hid (HB1.out.trans (hBn.mono HB1.out.size))
   clear hBn HC8 p0 p1 q3 q4 q5 q6 q0
   by_cases hu1 : u1 = 0
   rotate_left
   · have hvi : ((u1 : Int) == 0) = false := by rw [beq_eq_false_iff_ne]; omega
     have HV := Lib.hid (HEnd.out u1 _ (by rw [K1.out, seq_no hu1]) HB8.out)
     go_wp2_with fail
     go_ret
     exact HV.out
   subst hu1
   have K2 := Lib.hid (show R = seq (y.body.chk x fn f fi d1 ar) (y.els.chk x fn f fi d1 ar) by rw [K1.out]; rfl)
   obtain ⟨p0, p1⟩ := HP.out _ HB8.out
   have q14 := C14.out _ HB8.out
   have HC9 := Lib.hid (HBd.out _ ar pr cr (HU.out _ HB8.out) (HAr2.out _ (HU.out _ HB8.out)) (by have := HD1.out; omega) HD.out)
   generalize y.body.chk x fn f fi d1 ar = u2 at HC9 K2
   go_wp2_with fail
   refine HC9.out.mono ?_
   rintro z v9 ⟨rfl, hBn⟩
   have HB9 := Lib.hid (HB8.out.trans (hBn.mono HB8.out.size))
   clear hBn HC9 p0 p1 q14
   by_cases hu2 : u2 = 0
   rotate_left
   · have hvi : ((u2 : Int) == 0) = false := by rw [beq_eq_false_iff_ne]; omega
     have HV := Lib.hid (HEnd.out u2 _ (by rw [K2.out, seq_no hu2]) HB9.out)
     go_wp2_with fail
     go_ret
     exact HV.out
   subst hu2
   have K3 := Lib.hid (show R = y.els.chk x fn f fi d1 ar by rw [K2.out]; rfl)
   obtain ⟨p0, p1⟩ := HP.out _ HB9.out
   have q15 := C15.out _ HB9.out
   have HC10 := Lib.hid (HEl.out _ ar pr cr (HU.out _ HB9.out) (HAr2.out _ (HU.out _ HB9.out)) (by have := HD1.out; omega) HD.out)
   generalize y.els.chk x fn f fi d1 ar = u3 at HC10 K3
   go_wp2_with fail
   refine HC10.out.mono ?_
   rintro z v10 ⟨rfl, hBn⟩
   have HB10 := Lib.hid (HB9.out.trans (hBn.mono HB9.out.size))
   clear hBn HC10 p0 p1 q15
   have HV := Lib.hid (HEnd.out u3 _ (K3.out.symm) HB10.out)
   go_wp2_with fail
   go_ret
   exact HV.out
 · have K1 := Lib.hid (chk_3 R2.out (.inr HKd.out) HOw.out)
   rw [← HD1.out] at K1
   obtain ⟨p0, p1⟩ := HP.out _ HB1.out
   have q3 := C3.out _ HB1.out
   have q4 := C4.out _ HB1.out
   have q5 := C5.out _ HB1.out
   have q6 := C6.out _ HB1.out
   have HC11 := Lib.hid (HEe.out _ (HU.out _ HB1.out))
   generalize y.e.chk x fn deep = u1 at HC11 K1
   go_wp2_with fail
   refine HC11.out.mono ?_
   rintro z v11 ⟨rfl, hBn⟩
   have HB11 := Lib.hid (HB1.out.trans (hBn.mono HB1.out.size))
   clear hBn HC11 p0 p1 q3 q4 q5 q6 q0
   by_cases hu1 : u1 = 0
   rotate_left
   · have hvi : ((u1 : Int) == 0) = false := by rw [beq_eq_false_iff_ne]; omega
     have HV := Lib.hid (HEnd.out u1 _ (by rw [K1.out, seq_no hu1]) HB11.out)
     go_wp2_with fail
     go_ret
     exact HV.out
   subst hu1
   have K2 := Lib.hid (show R = seq (y.body.chk x fn f fi d1 ar) (y.els.chk x fn f fi d1 ar) by rw [K1.out]; rfl)
   obtain ⟨p0, p1⟩ := HP.out _ HB11.out
   have q14 := C14.out _ HB11.out
   have HC12 := Lib.hid (HBd.out _ ar pr cr (HU.out _ HB11.out) (HAr2.out _ (HU.out _ HB11.out)) (by have := HD1.out; omega) HD.out)
   generalize y.body.chk x fn f fi d1 ar = u2 at HC12 K2
   go_wp2_with fail
   refine HC12.out.mono ?_
   rintro z v12 ⟨rfl, hBn⟩
   have HB12 := Lib.hid (HB11.out.trans (hBn.mono HB11.out.size))
   clear hBn HC12 p0 p1 q14
   by_cases hu2 : u2 = 0
   rotate_left
   · have hvi : ((u2 : Int) == 0) = false := by rw [beq_eq_false_iff_ne]; omega
     have HV := Lib.hid (HEnd.out u2 _ (by rw [K2.out, seq_no hu2]) HB12.out)
     go_wp2_with fail
     go_ret
     exact HV.out
   subst hu2
   have K3 := Lib.hid (show R = y.els.chk x fn f fi d1 ar by rw [K2.out]; rfl)
   obtain ⟨p0, p1⟩ := HP.out _ HB12.out
   have q15 := C15.out _ HB12.out
   have HC13 := Lib.hid (HEl.out _ ar pr cr (HU.out _ HB12.out) (HAr2.out _ (HU.out _ HB12.out)) (by have := HD1.out; omega) HD.out)
   generalize y.els.chk x fn f fi d1 ar = u3 at HC13 K3
   go_wp2_with fail
   refine HC13.out.mono ?_
   rintro z v13 ⟨rfl, hBn⟩
   have HB13 := Lib.hid (HB12.out.trans (hBn.mono HB12.out.size))
   clear hBn HC13 p0 p1 q15
   have HV := Lib.hid (HEnd.out u3 _ (K3.out.symm) HB13.out)
   go_wp2_with fail
   go_ret
   exact HV.out
 · have K1 := Lib.hid (chk_5 R2.out HKd.out HOw.out)
   rw [← HD1.out] at K1
   obtain ⟨p0, p1⟩ := HP.out _ HB1.out
   have q1 := C1.out _ HB1.out
   have HC14 := Lib.hid (HWd.out _ (HU.out _ HB1.out))
   generalize wordR x fn y.name = u1 at HC14 K1
   go_wp2_with fail
   refine HC14.out.mono ?_
   rintro z v14 ⟨rfl, hBn⟩
   have HB14 := Lib.hid (HB1.out.trans (hBn.mono HB1.out.size))
   clear hBn HC14 p0 p1 q1 q0
   have HHa1 := Lib.hid (fun (W : World) (hB : Below W0.heap.size W0 W) => HHa.out W (HU.out W hB))
   have HHr1 := Lib.hid (fun (W : World) (hB : Below W0.heap.size W0 W) => HHr.out W (HU.out W hB))
   have HPm1 := Lib.hid (fun (W : World) (hB : Below W0.heap.size W0 W) => HPm.out W (HU.out W hB))
   generalize ar.any (fun z => z == y.name) = ba at HHa1 K1
   generalize fn.rets.any (fun z => z == y.name) = br at HHr1 K1
   generalize fn.params.any (named y.name) = bp at HPm1 K1
   generalize hl1 : decide ((y.high : Int) < (y.low : Int)) = bl at K1
   generalize hl2 : decide ((65536 : Int) < (y.high : Int)) = bh at K1
   have hn1 : decide (y.high < y.low) = bl := by rw [← hl1, decide_eq_decide]; omega
   have hn2 : decide (65536 < y.high) = bh := by rw [← hl2, decide_eq_decide]; omega
   clear HHa HHr HPm HHc HEe HEa HAr HWd HCa HEl
   by_cases hu1 : u1 = 0
   rotate_left
   · have hvi : ((u1 : Int) == 0) = false := by rw [beq_eq_false_iff_ne]; omega
     have hX : Below W0.heap.size W0 v14.drew := HB14.out.drew
     go_upto_region 28 with fail
     refine wp_region_held_drew (S := fun W => W.cell? ⟨w.heap.size, 1, none⟩ = some (.slice (some ⟨b', o', none⟩) x.fns.length d) ∧ W.cell? ⟨w.heap.size + 1, 1, none⟩ = some (.string (str y.name)) ∧ W.cell? ⟨w.heap.size + 1, 12, none⟩ = some (.int .u64 (y.low : Int)) ∧ W.cell? ⟨w.heap.size + 1, 13, none⟩ = some (.int .u64 (y.high : Int)) ∧ W.cell? ⟨b', o' + fi * 5, none⟩ = some (.string (str fn.name)) ∧ W.cell? ⟨b', o' + fi * 5 + 1, none⟩ = some (.slice fp fn.params.length fcp) ∧ W.cell? ⟨b', o' + fi * 5 + 2, none⟩ = some (.slice fv fn.vars.length fcv) ∧ W.cell? ⟨b', o' + fi * 5 + 3, none⟩ = some (.slice fr fn.rets.length fcr) ∧ W.cell? ⟨b', o' + fi * 5 + 4, none⟩ = some (.slice fb fn.body.len fcb)) (by kernel_rfl) ?_ (fun hHeld => ?_)
     · exact ⟨(HP.out _ hX).2, C1.out _ hX, C12.out _ hX, C13.out _ hX, HFc.out _ (HU.out _ hX)⟩
     refine tq 0 ?_
     refine tk 1 (.bool false) rfl (.inl ⟨by rfl, ?_⟩) ?_
     · (intro w hSw; (try dsimp only at hSw); go_simp)
     try simp only [Act.put, List.setIfInBounds_toArray, List.set_cons_zero, List.set_cons_succ]
     refine tq 2 ?_
     refine sq 3 ?_
     refine sq 4 ?_
     refine sq 5 ?_
     refine sq 6 ?_
     refine sq 7 ?_
     refine sq 8 ?_
     refine sq 9 ?_
     refine sq 10 ?_
     refine sq 11 ?_
     refine sq 12 ?_
     refine sq 13 ?_
     refine sq 14 ?_
     refine sq 15 ?_
     refine sq 16 ?_
     refine sq 17 ?_
     refine sq 18 ?_
     refine sq 19 ?_
     refine sq 20 ?_
     refine sq 21 ?_
     refine sq 22 ?_
     refine sq 23 ?_
     refine sq 24 ?_
     refine sq 25 ?_
     refine sq 26 ?_
     refine sq 27 ?_
     refine sq 28 ?_
     refine sq 29 ?_
     refine sq 30 ?_
     refine sq 31 ?_
     refine sq 32 ?_
     refine sq 33 ?_
     refine sq 34 ?_
     refine sq 35 ?_
     refine sq 36 ?_
     refine sq 37 ?_
     refine sq 38 ?_
     refine sq 39 ?_
     refine tq 40 ?_
     refine wpAnyH_done (by kernel_rfl) ?_ _
     have HX := Lib.hid hX
     clear hX
     have HV := Lib.hid (HEnd.out u1 _ (by rw [K1.out, seq_no hu1]) HX.out)
     go_wp2_with fail
     go_ret
     exact HV.out
   subst hu1
   have K2 := Lib.hid (show R = seq (ask (!((((ba || bl) || bh) || br) || bp)) 2) (y.body.chk x fn f fi d1 (ar ++ [y.name])) by rw [K1.out]; rfl)
   cases ba
   · skip
     cases bl
     · skip
       cases bh
       · skip
         cases br
         · skip
           cases bp
           · skip
             have hX : Below W0.heap.size W0 v14.drew := HB14.out.drew
             go_upto_region 28 with fail
             refine wp_region_held_drew (S := fun W => W.cell? ⟨w.heap.size, 1, none⟩ = some (.slice (some ⟨b', o', none⟩) x.fns.length d) ∧ W.cell? ⟨w.heap.size + 1, 1, none⟩ = some (.string (str y.name)) ∧ W.cell? ⟨w.heap.size + 1, 12, none⟩ = some (.int .u64 (y.low : Int)) ∧ W.cell? ⟨w.heap.size + 1, 13, none⟩ = some (.int .u64 (y.high : Int)) ∧ W.cell? ⟨b', o' + fi * 5, none⟩ = some (.string (str fn.name)) ∧ W.cell? ⟨b', o' + fi * 5 + 1, none⟩ = some (.slice fp fn.params.length fcp) ∧ W.cell? ⟨b', o' + fi * 5 + 2, none⟩ = some (.slice fv fn.vars.length fcv) ∧ W.cell? ⟨b', o' + fi * 5 + 3, none⟩ = some (.slice fr fn.rets.length fcr) ∧ W.cell? ⟨b', o' + fi * 5 + 4, none⟩ = some (.slice fb fn.body.len fcb)) (by kernel_rfl) ?_ (fun hHeld => ?_)
             · exact ⟨(HP.out _ hX).2, C1.out _ hX, C12.out _ hX, C13.out _ hX, HFc.out _ (HU.out _ hX)⟩
             refine tq 0 ?_
             refine tk 1 (.bool true) rfl (.inl ⟨by rfl, ?_⟩) ?_
             · (intro w hSw; (try dsimp only at hSw); go_simp)
             try simp only [Act.put, List.setIfInBounds_toArray, List.set_cons_zero, List.set_cons_succ]
             refine tq 2 ?_
             refine tq 3 ?_
             refine tq 4 ?_
             refine tq 5 ?_
             refine wpAnyH_ready (rs := [6]) (by kernel_rfl) (by simp) ?_
             refine rdy rfl (fun K hK => ?_) AllReadyH.nil
             go_simp
             refine (HHa1.out _ hX).mono ?_
             rintro z w9 ⟨rfl, hw⟩
             subst hw
             refine hK.out _ _ ?_ (fun hHeld => ?_)
             · exact ⟨(HP.out _ hX).2, C1.out _ hX, C12.out _ hX, C13.out _ hX, HFc.out _ (HU.out _ hX)⟩
             clear hK K
             try simp only [Act.put, List.setIfInBounds_toArray, List.set_cons_zero, List.set_cons_succ]
             refine tq 7 ?_
             refine tq 8 ?_
             refine tq 9 ?_
             refine tq 10 ?_
             refine tq 11 ?_
             refine tk 12 (.bool false) rfl (.inl ⟨by rfl, ?_⟩) ?_
             · (intro w hSw; (try dsimp only at hSw); go_simp)
             try simp only [Act.put, List.setIfInBounds_toArray, List.set_cons_zero, List.set_cons_succ]
             refine tq 13 ?_
             refine tq 14 ?_
             refine tq 15 ?_
             refine tq 16 ?_
             refine tk 17 (.bool false) rfl (.inl ⟨by rfl, ?_⟩) ?_
             · (intro w hSw; (try dsimp only at hSw); go_simp)
             try simp only [Act.put, List.setIfInBounds_toArray, List.set_cons_zero, List.set_cons_succ]
             refine tq 18 ?_
             refine tq 19 ?_
             refine tq 20 ?_
             refine tq 21 ?_
             refine tq 22 ?_
             refine tq 23 ?_
             refine tq 24 ?_
             refine tq 25 ?_
             refine tq 26 ?_
             refine tq 27 ?_
             refine wpAnyH_ready (rs := [28]) (by kernel_rfl) (by simp) ?_
             refine rdy rfl (fun K hK => ?_) AllReadyH.nil
             go_simp
             refine (HHr1.out _ hX).mono ?_
             rintro z w9 ⟨rfl, hw⟩
             subst hw
             refine hK.out _ _ ?_ (fun hHeld => ?_)
             · exact ⟨(HP.out _ hX).2, C1.out _ hX, C12.out _ hX, C13.out _ hX, HFc.out _ (HU.out _ hX)⟩
             clear hK K
             try simp only [Act.put, List.setIfInBounds_toArray, List.set_cons_zero, List.set_cons_succ]
             refine tq 29 ?_
             refine tq 30 ?_
             refine tq 31 ?_
             refine tq 32 ?_
             refine tq 33 ?_
             refine tq 34 ?_
             refine tq 35 ?_
             refine tq 36 ?_
             refine tq 37 ?_
             refine wpAnyH_ready (rs := [38]) (by kernel_rfl) (by simp) ?_
             refine rdy rfl (fun K hK => ?_) AllReadyH.nil
             go_simp
             refine (HPm1.out _ hX).mono ?_
             rintro z w9 ⟨rfl, hB9⟩
             replace hX := hX.trans (hB9.mono hX.size)
             clear hB9
             refine hK.out _ _ ?_ (fun hHeld => ?_)
             · exact ⟨(HP.out _ hX).2, C1.out _ hX, C12.out _ hX, C13.out _ hX, HFc.out _ (HU.out _ hX)⟩
             clear hK K
             try simp only [Act.put, List.setIfInBounds_toArray, List.set_cons_zero, List.set_cons_succ]
             refine tq 39 ?_
             refine tq 40 ?_
             refine wpAnyH_done (by kernel_rfl) ?_ _
             have HX := Lib.hid hX
             clear hX
             have K3 := Lib.hid (show R = y.body.chk x fn f fi d1 (ar ++ [y.name]) by rw [K2.out]; rfl)
             obtain ⟨vx, hvx⟩ : ∃ vx : World, vx = w9 := ⟨_, rfl⟩
             rw [← hvx] at HX
             have hX : Below W0.heap.size W0 vx.drew := HX.out.drew
             rw [← hvx]
             clear hvx
             go_upto_region 31 with fail
             refine wp_region_held_drew (S := fun W => W.cell? ⟨w.heap.size, 0, none⟩ = some (.slice pp x.regs.length c) ∧ W.cell? ⟨w.heap.size, 1, none⟩ = some (.slice (some ⟨b', o', none⟩) x.fns.length d) ∧ W.cell? ⟨w.heap.size + 1, 1, none⟩ = some (.string (str y.name)) ∧ W.cell? ⟨w.heap.size + 1, 14, none⟩ = some (.slice pb y.body.len cb)) (by kernel_rfl) ?_ (fun hHeld => ?_)
             · exact ⟨(HP.out _ hX).1, (HP.out _ hX).2, C1.out _ hX, C14.out _ hX⟩
             refine tq 0 ?_
             refine tq 1 ?_
             refine tq 2 ?_
             refine tq 3 ?_
             refine tq 4 ?_
             refine tq 5 ?_
             refine tq 6 ?_
             refine tq 8 ?_
             refine tq 9 ?_
             refine tq 12 ?_
             obtain ⟨va, wa, hap, hown, hgr⟩ := run_app (P := Tryz.prog) _ W0.heap.size 42 42 9 i0 _ 1 16 Tryz.underlying42 hi0 hz0' hz1 hz2 rfl (by decide) (.slice none 0 0) 0 [] ⟨rfl, .inl ⟨rfl, rfl⟩⟩ pr ar.length cr (strCells ar) (str_src (HAr2.out _ (HU.out _ hX))) (strc_one ar) (by unfold maxLen; omega) (by omega) hX.size
             rw [Nat.zero_add, List.nil_append] at hown
             refine wpAnyH_ready (rs := [7, 10]) (by kernel_rfl) (by simp) ?_
             refine rdy rfl (fun K hK => ?_) (rdy rfl (fun K hK => ?_) AllReadyH.nil)
             · refine Lib.wp_append_run _ _ _ _ _ rfl _ _ rfl rfl _ _ hap ?_
               have hX2 := below_grown (e := 9) (n := 0) (size := 1) (xs := []) hX hgr hX.size ⟨rfl, .inl ⟨rfl, rfl⟩⟩
               replace hX := hX2
               refine hK.out _ _ ?_ (fun hHeld => ?_)
               · exact ⟨(HP.out _ hX).1, (HP.out _ hX).2, C1.out _ hX, C14.out _ hX⟩
               clear hK K
               try simp only [Act.put, List.setIfInBounds_toArray, List.set_cons_zero, List.set_cons_succ]
               have hO0 := hown
               refine wpAnyH_ready (rs := [10]) (by kernel_rfl) (by simp) ?_
               refine rdy rfl (fun K hK => ?_) AllReadyH.nil
               go_simp
               replace hX := hX.alloc hX.size (.cells #[.string (str y.name)] 9)
               refine hK.out _ _ ?_ (fun hHeld => ?_)
               · exact ⟨(HP.out _ hX).1, (HP.out _ hX).2, C1.out _ hX, C14.out _ hX⟩
               clear hK K
               try simp only [Act.put, List.setIfInBounds_toArray, List.set_cons_zero, List.set_cons_succ]
               have hO : OwnS _ W0.heap.size va ar := own_later hO0 ((Below.refl _ wa).alloc (Nat.le_refl _) (.cells #[.string (str y.name)] 9))
               have hG : ∀ (j : Nat) (u : Value), [Value.string (str y.name)][j]? = some u → (wa.alloc (.cells #[.string (str y.name)] 9)).cell? ⟨wa.heap.size, 0 + j, none⟩ = some u := fun j u hu => by
                 rcases j with _ | j
                 · cases hu; exact cell_blk (heap_alloc_new wa _) rfl
                 · simp at hu
               obtain ⟨vb, wb, hap2, hown2, hgr2⟩ := run_app (P := Tryz.prog) _ W0.heap.size 42 42 9 i0 _ 1 16 Tryz.underlying42 hi0 hz0' hz1 hz2 rfl (by decide) va ar.length (strCells ar) hO (some ⟨_, 0, none⟩) 1 1 [.string (str y.name)] ⟨rfl, .inr ⟨_, _, rfl, hG⟩⟩ (by intro u hu; simp at hu; subst hu; rfl) (by unfold maxLen; omega) (by omega) hX.size
               have hX5 := below_grown hX hgr2 hX.size hO
               replace hX := hX5
               obtain ⟨a9, ha9⟩ : ∃ a9, a9 = ar ++ [y.name] := ⟨_, rfl⟩
               have hO9 : OwnS wb W0.heap.size vb a9 := by rw [ha9]; unfold OwnS; rw [List.length_append, strc_app]; exact hown2
               obtain ⟨q9, cq9, hv9, hrow9⟩ := own_strs hO9 (by rw [ha9, List.length_append]; simp; omega)
               rw [← ha9] at K3
               have h9 : a9.length ≤ d1 := by rw [ha9, List.length_append, HD1.out]; simp; omega
               have HC9 := Lib.hid (HBd.out _ a9 q9 cq9 (HU.out _ hX) hrow9 (by have := HD1.out; omega) HD.out)
               generalize y.body.chk x fn f fi d1 a9 = u9 at HC9 K3
               clear ha9 hO9 hown2
               refine wpAnyH_ready (rs := [11]) (by kernel_rfl) (by simp) ?_
               refine rdy rfl (fun K hK => ?_) AllReadyH.nil
               refine Lib.wp_append_run _ _ _ _ _ rfl _ _ rfl rfl _ _ hap2 ?_
               refine hK.out _ _ ?_ (fun hHeld => ?_)
               · exact ⟨(HP.out _ hX).1, (HP.out _ hX).2, C1.out _ hX, C14.out _ hX⟩
               clear hK K
               try simp only [Act.put, List.setIfInBounds_toArray, List.set_cons_zero, List.set_cons_succ]
               subst hv9
               refine wpAnyH_ready (rs := [13]) (by kernel_rfl) (by simp) ?_
               refine rdy rfl (fun K hK => ?_) AllReadyH.nil
               go_simp
               refine HC9.out.mono ?_
               rintro z w10 ⟨rfl, hB10⟩
               replace hX := hX.trans (hB10.mono hX.size)
               clear hB10
               refine hK.out _ _ ?_ (fun hHeld => ?_)
               · exact ⟨(HP.out _ hX).1, (HP.out _ hX).2, C1.out _ hX, C14.out _ hX⟩
               clear hK K
               try simp only [Act.put, List.setIfInBounds_toArray, List.set_cons_zero, List.set_cons_succ]
               refine tq 14 ?_
               refine wpAnyH_done (by kernel_rfl) ?_ _
               have HV := Lib.hid (HEnd.out u9 _ K3.out.symm hX)
               clear hX
               go_wp2_with fail
               go_ret
               exact HV.out
             · go_simp
               clear hap hown hgr
               replace hX := hX.alloc hX.size (.cells #[.string (str y.name)] 9)
               refine hK.out _ _ ?_ (fun hHeld => ?_)
               · exact ⟨(HP.out _ hX).1, (HP.out _ hX).2, C1.out _ hX, C14.out _ hX⟩
               clear hK K
               try simp only [Act.put, List.setIfInBounds_toArray, List.set_cons_zero, List.set_cons_succ]
               have hG0 : ∀ (j : Nat) (u : Value), [Value.string (str y.name)][j]? = some u → (vx.drew.alloc (.cells #[.string (str y.name)] 9)).cell? ⟨vx.drew.heap.size, 0 + j, none⟩ = some u := fun j u hu => by
                 rcases j with _ | j
                 · cases hu; exact cell_blk (heap_alloc_new vx.drew _) rfl
                 · simp at hu
               obtain ⟨va, wa, hap, hown, hgr⟩ := run_app (P := Tryz.prog) _ W0.heap.size 42 42 9 i0 _ 1 16 Tryz.underlying42 hi0 hz0' hz1 hz2 rfl (by decide) (.slice none 0 0) 0 [] ⟨rfl, .inl ⟨rfl, rfl⟩⟩ pr ar.length cr (strCells ar) (str_src (HAr2.out _ (HU.out _ hX))) (strc_one ar) (by unfold maxLen; omega) (by omega) hX.size
               rw [Nat.zero_add, List.nil_append] at hown
               refine wpAnyH_ready (rs := [7]) (by kernel_rfl) (by simp) ?_
               refine rdy rfl (fun K hK => ?_) AllReadyH.nil
               refine Lib.wp_append_run _ _ _ _ _ rfl _ _ rfl rfl _ _ hap ?_
               have hX2 := below_grown (e := 9) (n := 0) (size := 1) (xs := []) hX hgr hX.size ⟨rfl, .inl ⟨rfl, rfl⟩⟩
               replace hX := hX2
               refine hK.out _ _ ?_ (fun hHeld => ?_)
               · exact ⟨(HP.out _ hX).1, (HP.out _ hX).2, C1.out _ hX, C14.out _ hX⟩
               clear hK K
               try simp only [Act.put, List.setIfInBounds_toArray, List.set_cons_zero, List.set_cons_succ]
               have hO : OwnS wa W0.heap.size va ar := hown
               have hG : ∀ (j : Nat) (u : Value), [Value.string (str y.name)][j]? = some u → wa.cell? ⟨vx.drew.heap.size, 0 + j, none⟩ = some u := fun j u hu => by
                 have h1 := hG0 j u hu
                 exact (World.cell?_of_block (hgr.block _ (by simp) (by simp [Value.ownBlock]))).trans h1
               obtain ⟨vb, wb, hap2, hown2, hgr2⟩ := run_app (P := Tryz.prog) _ W0.heap.size 42 42 9 i0 _ 1 16 Tryz.underlying42 hi0 hz0' hz1 hz2 rfl (by decide) va ar.length (strCells ar) hO (some ⟨_, 0, none⟩) 1 1 [.string (str y.name)] ⟨rfl, .inr ⟨_, _, rfl, hG⟩⟩ (by intro u hu; simp at hu; subst hu; rfl) (by unfold maxLen; omega) (by omega) hX.size
               have hX5 := below_grown hX hgr2 hX.size hO
               replace hX := hX5
               obtain ⟨a9, ha9⟩ : ∃ a9, a9 = ar ++ [y.name] := ⟨_, rfl⟩
               have hO9 : OwnS wb W0.heap.size vb a9 := by rw [ha9]; unfold OwnS; rw [List.length_append, strc_app]; exact hown2
               obtain ⟨q9, cq9, hv9, hrow9⟩ := own_strs hO9 (by rw [ha9, List.length_append]; simp; omega)
               rw [← ha9] at K3
               have h9 : a9.length ≤ d1 := by rw [ha9, List.length_append, HD1.out]; simp; omega
               have HC9 := Lib.hid (HBd.out _ a9 q9 cq9 (HU.out _ hX) hrow9 (by have := HD1.out; omega) HD.out)
               generalize y.body.chk x fn f fi d1 a9 = u9 at HC9 K3
               clear ha9 hO9 hown2
               refine wpAnyH_ready (rs := [11]) (by kernel_rfl) (by simp) ?_
               refine rdy rfl (fun K hK => ?_) AllReadyH.nil
               refine Lib.wp_append_run _ _ _ _ _ rfl _ _ rfl rfl _ _ hap2 ?_
               refine hK.out _ _ ?_ (fun hHeld => ?_)
               · exact ⟨(HP.out _ hX).1, (HP.out _ hX).2, C1.out _ hX, C14.out _ hX⟩
               clear hK K
               try simp only [Act.put, List.setIfInBounds_toArray, List.set_cons_zero, List.set_cons_succ]
               subst hv9
               refine wpAnyH_ready (rs := [13]) (by kernel_rfl) (by simp) ?_
               refine rdy rfl (fun K hK => ?_) AllReadyH.nil
               go_simp
               refine HC9.out.mono ?_
               rintro z w10 ⟨rfl, hB10⟩
               replace hX := hX.trans (hB10.mono hX.size)
               clear hB10
               refine hK.out _ _ ?_ (fun hHeld => ?_)
               · exact ⟨(HP.out _ hX).1, (HP.out _ hX).2, C1.out _ hX, C14.out _ hX⟩
               clear hK K
               try simp only [Act.put, List.setIfInBounds_toArray, List.set_cons_zero, List.set_cons_succ]
               refine tq 14 ?_
               refine wpAnyH_done (by kernel_rfl) ?_ _
               have HV := Lib.hid (HEnd.out u9 _ K3.out.symm hX)
               clear hX
               go_wp2_with fail
               go_ret
               exact HV.out
           · skip
             have hX : Below W0.heap.size W0 v14.drew := HB14.out.drew
             go_upto_region 28 with fail
             refine wp_region_held_drew (S := fun W => W.cell? ⟨w.heap.size, 1, none⟩ = some (.slice (some ⟨b', o', none⟩) x.fns.length d) ∧ W.cell? ⟨w.heap.size + 1, 1, none⟩ = some (.string (str y.name)) ∧ W.cell? ⟨w.heap.size + 1, 12, none⟩ = some (.int .u64 (y.low : Int)) ∧ W.cell? ⟨w.heap.size + 1, 13, none⟩ = some (.int .u64 (y.high : Int)) ∧ W.cell? ⟨b', o' + fi * 5, none⟩ = some (.string (str fn.name)) ∧ W.cell? ⟨b', o' + fi * 5 + 1, none⟩ = some (.slice fp fn.params.length fcp) ∧ W.cell? ⟨b', o' + fi * 5 + 2, none⟩ = some (.slice fv fn.vars.length fcv) ∧ W.cell? ⟨b', o' + fi * 5 + 3, none⟩ = some (.slice fr fn.rets.length fcr) ∧ W.cell? ⟨b', o' + fi * 5 + 4, none⟩ = some (.slice fb fn.body.len fcb)) (by kernel_rfl) ?_ (fun hHeld => ?_)
             · exact ⟨(HP.out _ hX).2, C1.out _ hX, C12.out _ hX, C13.out _ hX, HFc.out _ (HU.out _ hX)⟩
             refine tq 0 ?_
             refine tk 1 (.bool true) rfl (.inl ⟨by rfl, ?_⟩) ?_
             · (intro w hSw; (try dsimp only at hSw); go_simp)
             try simp only [Act.put, List.setIfInBounds_toArray, List.set_cons_zero, List.set_cons_succ]
             refine tq 2 ?_
             refine tq 3 ?_
             refine tq 4 ?_
             refine tq 5 ?_
             refine wpAnyH_ready (rs := [6]) (by kernel_rfl) (by simp) ?_
             refine rdy rfl (fun K hK => ?_) AllReadyH.nil
             go_simp
             refine (HHa1.out _ hX).mono ?_
             rintro z w9 ⟨rfl, hw⟩
             subst hw
             refine hK.out _ _ ?_ (fun hHeld => ?_)
             · exact ⟨(HP.out _ hX).2, C1.out _ hX, C12.out _ hX, C13.out _ hX, HFc.out _ (HU.out _ hX)⟩
             clear hK K
             try simp only [Act.put, List.setIfInBounds_toArray, List.set_cons_zero, List.set_cons_succ]
             refine tq 7 ?_
             refine tq 8 ?_
             refine tq 9 ?_
             refine tq 10 ?_
             refine tq 11 ?_
             refine tk 12 (.bool false) rfl (.inl ⟨by rfl, ?_⟩) ?_
             · (intro w hSw; (try dsimp only at hSw); go_simp)
             try simp only [Act.put, List.setIfInBounds_toArray, List.set_cons_zero, List.set_cons_succ]
             refine tq 13 ?_
             refine tq 14 ?_
             refine tq 15 ?_
             refine tq 16 ?_
             refine tk 17 (.bool false) rfl (.inl ⟨by rfl, ?_⟩) ?_
             · (intro w hSw; (try dsimp only at hSw); go_simp)
             try simp only [Act.put, List.setIfInBounds_toArray, List.set_cons_zero, List.set_cons_succ]
             refine tq 18 ?_
             refine tq 19 ?_
             refine tq 20 ?_
             refine tq 21 ?_
             refine tq 22 ?_
             refine tq 23 ?_
             refine tq 24 ?_
             refine tq 25 ?_
             refine tq 26 ?_
             refine tq 27 ?_
             refine wpAnyH_ready (rs := [28]) (by kernel_rfl) (by simp) ?_
             refine rdy rfl (fun K hK => ?_) AllReadyH.nil
             go_simp
             refine (HHr1.out _ hX).mono ?_
             rintro z w9 ⟨rfl, hw⟩
             subst hw
             refine hK.out _ _ ?_ (fun hHeld => ?_)
             · exact ⟨(HP.out _ hX).2, C1.out _ hX, C12.out _ hX, C13.out _ hX, HFc.out _ (HU.out _ hX)⟩
             clear hK K
             try simp only [Act.put, List.setIfInBounds_toArray, List.set_cons_zero, List.set_cons_succ]
             refine tq 29 ?_
             refine tq 30 ?_
             refine tq 31 ?_
             refine tq 32 ?_
             refine tq 33 ?_
             refine tq 34 ?_
             refine tq 35 ?_
             refine tq 36 ?_
             refine tq 37 ?_
             refine wpAnyH_ready (rs := [38]) (by kernel_rfl) (by simp) ?_
             refine rdy rfl (fun K hK => ?_) AllReadyH.nil
             go_simp
             refine (HPm1.out _ hX).mono ?_
             rintro z w9 ⟨rfl, hB9⟩
             replace hX := hX.trans (hB9.mono hX.size)
             clear hB9
             refine hK.out _ _ ?_ (fun hHeld => ?_)
             · exact ⟨(HP.out _ hX).2, C1.out _ hX, C12.out _ hX, C13.out _ hX, HFc.out _ (HU.out _ hX)⟩
             clear hK K
             try simp only [Act.put, List.setIfInBounds_toArray, List.set_cons_zero, List.set_cons_succ]
             refine tq 39 ?_
             refine tq 40 ?_
             refine wpAnyH_done (by kernel_rfl) ?_ _
             have HX := Lib.hid hX
             clear hX
             have HV := Lib.hid (HEnd.out 2 _ (by rw [K2.out]; rfl) HX.out)
             go_wp2_with fail
             go_ret
             exact HV.out
         · skip
           have hX : Below W0.heap.size W0 v14.drew := HB14.out.drew
           go_upto_region 28 with fail
           refine wp_region_held_drew (S := fun W => W.cell? ⟨w.heap.size, 1, none⟩ = some (.slice (some ⟨b', o', none⟩) x.fns.length d) ∧ W.cell? ⟨w.heap.size + 1, 1, none⟩ = some (.string (str y.name)) ∧ W.cell? ⟨w.heap.size + 1, 12, none⟩ = some (.int .u64 (y.low : Int)) ∧ W.cell? ⟨w.heap.size + 1, 13, none⟩ = some (.int .u64 (y.high : Int)) ∧ W.cell? ⟨b', o' + fi * 5, none⟩ = some (.string (str fn.name)) ∧ W.cell? ⟨b', o' + fi * 5 + 1, none⟩ = some (.slice fp fn.params.length fcp) ∧ W.cell? ⟨b', o' + fi * 5 + 2, none⟩ = some (.slice fv fn.vars.length fcv) ∧ W.cell? ⟨b', o' + fi * 5 + 3, none⟩ = some (.slice fr fn.rets.length fcr) ∧ W.cell? ⟨b', o' + fi * 5 + 4, none⟩ = some (.slice fb fn.body.len fcb)) (by kernel_rfl) ?_ (fun hHeld => ?_)
           · exact ⟨(HP.out _ hX).2, C1.out _ hX, C12.out _ hX, C13.out _ hX, HFc.out _ (HU.out _ hX)⟩
           refine tq 0 ?_
           refine tk 1 (.bool true) rfl (.inl ⟨by rfl, ?_⟩) ?_
           · (intro w hSw; (try dsimp only at hSw); go_simp)
           try simp only [Act.put, List.setIfInBounds_toArray, List.set_cons_zero, List.set_cons_succ]
           refine tq 2 ?_
           refine tq 3 ?_
           refine tq 4 ?_
           refine tq 5 ?_
           refine wpAnyH_ready (rs := [6]) (by kernel_rfl) (by simp) ?_
           refine rdy rfl (fun K hK => ?_) AllReadyH.nil
           go_simp
           refine (HHa1.out _ hX).mono ?_
           rintro z w9 ⟨rfl, hw⟩
           subst hw
           refine hK.out _ _ ?_ (fun hHeld => ?_)
           · exact ⟨(HP.out _ hX).2, C1.out _ hX, C12.out _ hX, C13.out _ hX, HFc.out _ (HU.out _ hX)⟩
           clear hK K
           try simp only [Act.put, List.setIfInBounds_toArray, List.set_cons_zero, List.set_cons_succ]
           refine tq 7 ?_
           refine tq 8 ?_
           refine tq 9 ?_
           refine tq 10 ?_
           refine tq 11 ?_
           refine tk 12 (.bool false) rfl (.inl ⟨by rfl, ?_⟩) ?_
           · (intro w hSw; (try dsimp only at hSw); go_simp)
           try simp only [Act.put, List.setIfInBounds_toArray, List.set_cons_zero, List.set_cons_succ]
           refine tq 13 ?_
           refine tq 14 ?_
           refine tq 15 ?_
           refine tq 16 ?_
           refine tk 17 (.bool false) rfl (.inl ⟨by rfl, ?_⟩) ?_
           · (intro w hSw; (try dsimp only at hSw); go_simp)
           try simp only [Act.put, List.setIfInBounds_toArray, List.set_cons_zero, List.set_cons_succ]
           refine tq 18 ?_
           refine tq 19 ?_
           refine tq 20 ?_
           refine tq 21 ?_
           refine tq 22 ?_
           refine tq 23 ?_
           refine tq 24 ?_
           refine tq 25 ?_
           refine tq 26 ?_
           refine tq 27 ?_
           refine wpAnyH_ready (rs := [28]) (by kernel_rfl) (by simp) ?_
           refine rdy rfl (fun K hK => ?_) AllReadyH.nil
           go_simp
           refine (HHr1.out _ hX).mono ?_
           rintro z w9 ⟨rfl, hw⟩
           subst hw
           refine hK.out _ _ ?_ (fun hHeld => ?_)
           · exact ⟨(HP.out _ hX).2, C1.out _ hX, C12.out _ hX, C13.out _ hX, HFc.out _ (HU.out _ hX)⟩
           clear hK K
           try simp only [Act.put, List.setIfInBounds_toArray, List.set_cons_zero, List.set_cons_succ]
           refine tq 29 ?_
           refine tq 30 ?_
           refine sq 31 ?_
           refine sq 32 ?_
           refine sq 33 ?_
           refine sq 34 ?_
           refine sq 35 ?_
           refine sq 36 ?_
           refine sq 37 ?_
           refine sq 38 ?_
           refine tq 39 ?_
           refine tq 40 ?_
           refine wpAnyH_done (by kernel_rfl) ?_ _
           have HX := Lib.hid hX
           clear hX
           have HV := Lib.hid (HEnd.out 2 _ (by rw [K2.out]; rfl) HX.out)
           go_wp2_with fail
           go_ret
           exact HV.out
       · skip
         have hX : Below W0.heap.size W0 v14.drew := HB14.out.drew
         go_upto_region 28 with fail
         refine wp_region_held_drew (S := fun W => W.cell? ⟨w.heap.size, 1, none⟩ = some (.slice (some ⟨b', o', none⟩) x.fns.length d) ∧ W.cell? ⟨w.heap.size + 1, 1, none⟩ = some (.string (str y.name)) ∧ W.cell? ⟨w.heap.size + 1, 12, none⟩ = some (.int .u64 (y.low : Int)) ∧ W.cell? ⟨w.heap.size + 1, 13, none⟩ = some (.int .u64 (y.high : Int)) ∧ W.cell? ⟨b', o' + fi * 5, none⟩ = some (.string (str fn.name)) ∧ W.cell? ⟨b', o' + fi * 5 + 1, none⟩ = some (.slice fp fn.params.length fcp) ∧ W.cell? ⟨b', o' + fi * 5 + 2, none⟩ = some (.slice fv fn.vars.length fcv) ∧ W.cell? ⟨b', o' + fi * 5 + 3, none⟩ = some (.slice fr fn.rets.length fcr) ∧ W.cell? ⟨b', o' + fi * 5 + 4, none⟩ = some (.slice fb fn.body.len fcb)) (by kernel_rfl) ?_ (fun hHeld => ?_)
         · exact ⟨(HP.out _ hX).2, C1.out _ hX, C12.out _ hX, C13.out _ hX, HFc.out _ (HU.out _ hX)⟩
         refine tq 0 ?_
         refine tk 1 (.bool true) rfl (.inl ⟨by rfl, ?_⟩) ?_
         · (intro w hSw; (try dsimp only at hSw); go_simp)
         try simp only [Act.put, List.setIfInBounds_toArray, List.set_cons_zero, List.set_cons_succ]
         refine tq 2 ?_
         refine tq 3 ?_
         refine tq 4 ?_
         refine tq 5 ?_
         refine wpAnyH_ready (rs := [6]) (by kernel_rfl) (by simp) ?_
         refine rdy rfl (fun K hK => ?_) AllReadyH.nil
         go_simp
         refine (HHa1.out _ hX).mono ?_
         rintro z w9 ⟨rfl, hw⟩
         subst hw
         refine hK.out _ _ ?_ (fun hHeld => ?_)
         · exact ⟨(HP.out _ hX).2, C1.out _ hX, C12.out _ hX, C13.out _ hX, HFc.out _ (HU.out _ hX)⟩
         clear hK K
         try simp only [Act.put, List.setIfInBounds_toArray, List.set_cons_zero, List.set_cons_succ]
         refine tq 7 ?_
         refine tq 8 ?_
         refine tq 9 ?_
         refine tq 10 ?_
         refine tq 11 ?_
         refine tk 12 (.bool false) rfl (.inl ⟨by rfl, ?_⟩) ?_
         · (intro w hSw; (try dsimp only at hSw); go_simp)
         try simp only [Act.put, List.setIfInBounds_toArray, List.set_cons_zero, List.set_cons_succ]
         refine tq 13 ?_
         refine tq 14 ?_
         refine tq 15 ?_
         refine tq 16 ?_
         refine tk 17 (.bool true) rfl (.inl ⟨by rfl, ?_⟩) ?_
         · (intro w hSw; (try dsimp only at hSw); go_simp)
         try simp only [Act.put, List.setIfInBounds_toArray, List.set_cons_zero, List.set_cons_succ]
         refine tq 18 ?_
         refine tq 19 ?_
         refine sq 20 ?_
         refine sq 21 ?_
         refine sq 22 ?_
         refine sq 23 ?_
         refine sq 24 ?_
         refine sq 25 ?_
         refine sq 26 ?_
         refine sq 27 ?_
         refine sq 28 ?_
         refine tq 29 ?_
         refine tq 30 ?_
         refine sq 31 ?_
         refine sq 32 ?_
         refine sq 33 ?_
         refine sq 34 ?_
         refine sq 35 ?_
         refine sq 36 ?_
         refine sq 37 ?_
         refine sq 38 ?_
         refine tq 39 ?_
         refine tq 40 ?_
         refine wpAnyH_done (by kernel_rfl) ?_ _
         have HX := Lib.hid hX
         clear hX
         have HV := Lib.hid (HEnd.out 2 _ (by rw [K2.out]; rfl) HX.out)
         go_wp2_with fail
         go_ret
         exact HV.out
     · skip
       have hX : Below W0.heap.size W0 v14.drew := HB14.out.drew
       go_upto_region 28 with fail
       refine wp_region_held_drew (S := fun W => W.cell? ⟨w.heap.size, 1, none⟩ = some (.slice (some ⟨b', o', none⟩) x.fns.length d) ∧ W.cell? ⟨w.heap.size + 1, 1, none⟩ = some (.string (str y.name)) ∧ W.cell? ⟨w.heap.size + 1, 12, none⟩ = some (.int .u64 (y.low : Int)) ∧ W.cell? ⟨w.heap.size + 1, 13, none⟩ = some (.int .u64 (y.high : Int)) ∧ W.cell? ⟨b', o' + fi * 5, none⟩ = some (.string (str fn.name)) ∧ W.cell? ⟨b', o' + fi * 5 + 1, none⟩ = some (.slice fp fn.params.length fcp) ∧ W.cell? ⟨b', o' + fi * 5 + 2, none⟩ = some (.slice fv fn.vars.length fcv) ∧ W.cell? ⟨b', o' + fi * 5 + 3, none⟩ = some (.slice fr fn.rets.length fcr) ∧ W.cell? ⟨b', o' + fi * 5 + 4, none⟩ = some (.slice fb fn.body.len fcb)) (by kernel_rfl) ?_ (fun hHeld => ?_)
       · exact ⟨(HP.out _ hX).2, C1.out _ hX, C12.out _ hX, C13.out _ hX, HFc.out _ (HU.out _ hX)⟩
       refine tq 0 ?_
       refine tk 1 (.bool true) rfl (.inl ⟨by rfl, ?_⟩) ?_
       · (intro w hSw; (try dsimp only at hSw); go_simp)
       try simp only [Act.put, List.setIfInBounds_toArray, List.set_cons_zero, List.set_cons_succ]
       refine tq 2 ?_
       refine tq 3 ?_
       refine tq 4 ?_
       refine tq 5 ?_
       refine wpAnyH_ready (rs := [6]) (by kernel_rfl) (by simp) ?_
       refine rdy rfl (fun K hK => ?_) AllReadyH.nil
       go_simp
       refine (HHa1.out _ hX).mono ?_
       rintro z w9 ⟨rfl, hw⟩
       subst hw
       refine hK.out _ _ ?_ (fun hHeld => ?_)
       · exact ⟨(HP.out _ hX).2, C1.out _ hX, C12.out _ hX, C13.out _ hX, HFc.out _ (HU.out _ hX)⟩
       clear hK K
       try simp only [Act.put, List.setIfInBounds_toArray, List.set_cons_zero, List.set_cons_succ]
       refine tq 7 ?_
       refine tq 8 ?_
       refine tq 9 ?_
       refine tq 10 ?_
       refine tq 11 ?_
       refine tk 12 (.bool true) rfl (.inl ⟨by rfl, ?_⟩) ?_
       · (intro w hSw; (try dsimp only at hSw); go_simp)
       try simp only [Act.put, List.setIfInBounds_toArray, List.set_cons_zero, List.set_cons_succ]
       refine tq 13 ?_
       refine tq 14 ?_
       refine sq 15 ?_
       refine sq 16 ?_
       refine sq 17 ?_
       refine tq 18 ?_
       refine tq 19 ?_
       refine sq 20 ?_
       refine sq 21 ?_
       refine sq 22 ?_
       refine sq 23 ?_
       refine sq 24 ?_
       refine sq 25 ?_
       refine sq 26 ?_
       refine sq 27 ?_
       refine sq 28 ?_
       refine tq 29 ?_
       refine tq 30 ?_
       refine sq 31 ?_
       refine sq 32 ?_
       refine sq 33 ?_
       refine sq 34 ?_
       refine sq 35 ?_
       refine sq 36 ?_
       refine sq 37 ?_
       refine sq 38 ?_
       refine tq 39 ?_
       refine tq 40 ?_
       refine wpAnyH_done (by kernel_rfl) ?_ _
       have HX := Lib.hid hX
       clear hX
       have HV := Lib.hid (HEnd.out 2 _ (by rw [K2.out]; rfl) HX.out)
       go_wp2_with fail
       go_ret
       exact HV.out
   · skip
     have hX : Below W0.heap.size W0 v14.drew := HB14.out.drew
     go_upto_region 28 with fail
     refine wp_region_held_drew (S := fun W => W.cell? ⟨w.heap.size, 1, none⟩ = some (.slice (some ⟨b', o', none⟩) x.fns.length d) ∧ W.cell? ⟨w.heap.size + 1, 1, none⟩ = some (.string (str y.name)) ∧ W.cell? ⟨w.heap.size + 1, 12, none⟩ = some (.int .u64 (y.low : Int)) ∧ W.cell? ⟨w.heap.size + 1, 13, none⟩ = some (.int .u64 (y.high : Int)) ∧ W.cell? ⟨b', o' + fi * 5, none⟩ = some (.string (str fn.name)) ∧ W.cell? ⟨b', o' + fi * 5 + 1, none⟩ = some (.slice fp fn.params.length fcp) ∧ W.cell? ⟨b', o' + fi * 5 + 2, none⟩ = some (.slice fv fn.vars.length fcv) ∧ W.cell? ⟨b', o' + fi * 5 + 3, none⟩ = some (.slice fr fn.rets.length fcr) ∧ W.cell? ⟨b', o' + fi * 5 + 4, none⟩ = some (.slice fb fn.body.len fcb)) (by kernel_rfl) ?_ (fun hHeld => ?_)
     · exact ⟨(HP.out _ hX).2, C1.out _ hX, C12.out _ hX, C13.out _ hX, HFc.out _ (HU.out _ hX)⟩
     refine tq 0 ?_
     refine tk 1 (.bool true) rfl (.inl ⟨by rfl, ?_⟩) ?_
     · (intro w hSw; (try dsimp only at hSw); go_simp)
     try simp only [Act.put, List.setIfInBounds_toArray, List.set_cons_zero, List.set_cons_succ]
     refine tq 2 ?_
     refine tq 3 ?_
     refine tq 4 ?_
     refine tq 5 ?_
     refine wpAnyH_ready (rs := [6]) (by kernel_rfl) (by simp) ?_
     refine rdy rfl (fun K hK => ?_) AllReadyH.nil
     go_simp
     refine (HHa1.out _ hX).mono ?_
     rintro z w9 ⟨rfl, hw⟩
     subst hw
     refine hK.out _ _ ?_ (fun hHeld => ?_)
     · exact ⟨(HP.out _ hX).2, C1.out _ hX, C12.out _ hX, C13.out _ hX, HFc.out _ (HU.out _ hX)⟩
     clear hK K
     try simp only [Act.put, List.setIfInBounds_toArray, List.set_cons_zero, List.set_cons_succ]
     refine tq 7 ?_
     refine sq 8 ?_
     refine sq 9 ?_
     refine sq 10 ?_
     refine sq 11 ?_
     refine sq 12 ?_
     refine tq 13 ?_
     refine tq 14 ?_
     refine sq 15 ?_
     refine sq 16 ?_
     refine sq 17 ?_
     refine tq 18 ?_
     refine tq 19 ?_
     refine sq 20 ?_
     refine sq 21 ?_
     refine sq 22 ?_
     refine sq 23 ?_
     refine sq 24 ?_
     refine sq 25 ?_
     refine sq 26 ?_
     refine sq 27 ?_
     refine sq 28 ?_
     refine tq 29 ?_
     refine tq 30 ?_
     refine sq 31 ?_
     refine sq 32 ?_
     refine sq 33 ?_
     refine sq 34 ?_
     refine sq 35 ?_
     refine sq 36 ?_
     refine sq 37 ?_
     refine sq 38 ?_
     refine tq 39 ?_
     refine tq 40 ?_
     refine wpAnyH_done (by kernel_rfl) ?_ _
     have HX := Lib.hid hX
     clear hX
     have HV := Lib.hid (HEnd.out 2 _ (by rw [K2.out]; rfl) HX.out)
     go_wp2_with fail
     go_ret
     exact HV.out
 · have K1 := Lib.hid (chk_6 R2.out HKd.out HOw.out)
   obtain ⟨p0, p1⟩ := HP.out _ HB1.out
   have HR0 := Lib.hid (HRg.out _ HB1.out)
   have HC1 := Lib.hid (HCa.out _ (HU.out _ HB1.out))
   generalize rcallR x fn f fi y deep = u1 at HC1 K1
   go_wp2_with (refine wpl_load rfl 45 _ rfl (w.heap.size + 1) 0 rfl A _ HR0.out Tryz.underlying45 rfl HI.out ?_)
   refine HC1.out.mono ?_
   rintro z v9 ⟨rfl, hBn⟩
   have HV := Lib.hid (HEnd.out u1 _ K1.out.symm (HB1.out.trans (hBn.mono HB1.out.size)))
   clear hBn HC1 p0 p1 q0
   go_wp2_with fail
   go_ret
   exact HV.out
end Go.Proofs.YtihmibggonffdaaGreat
