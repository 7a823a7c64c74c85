import Derived.Test.YthpcbbnabnlanaaGreatDoorM02
import Derived.Test.YthpcbbnabnlanaaGreatDoorM15
import Derived.Deep.AppendLies
namespace Go.Proofs.YthpcbbnabnlanaaGreatDoor
set_option linter.unusedVariables false
set_option linter.unusedSimpArgs false
section
set_option maxHeartbeats 1000000
set_option maxRecDepth 100000
open Go.RowKit
def bs (l : List UInt8) : ByteArray := ⟨l.toArray⟩
theorem bs_toList (l : List UInt8) : (bs l).toList = l := by rw [ByteArray.toList_eq];simp [bs]
theorem bs_of (s : ByteArray) (l : List UInt8) (h : s.toList = l) : s = bs l := by
 rw [ByteArray.toList_eq] at h
 unfold bs
 rw [← h,Array.toArray_toList]
def yModel : List UInt8 := [109,111,100,101,108]
def yStatement : List UInt8 := [115,116,97,116,101,109,101,110,116]
def yInts : List UInt8 := [105,110,116,115]
def yNames : List UInt8 := [110,97,109,101,115]
def yLits : List UInt8 := [108,105,116,115]
def yLit : List UInt8 := [108,105,116]
def ySum : List UInt8 := [115,117,109]
def yTerms : List UInt8 := [116,101,114,109,115]
def yTerm : List UInt8 := [116,101,114,109]
def yRel : List UInt8 := [114,101,108]
def yNAME : List UInt8 := [78,65,77,69]
def yINT : List UInt8 := [73,78,84]
def kVar : List UInt8 := [118,97,114]
def kList : List UInt8 := [108,105,115,116]
def kLin : List UInt8 := [108,105,110]
def kWhen : List UInt8 := [119,104,101,110]
def kAt : List UInt8 := [97,116]
def kDiff : List UInt8 := [100,105,102,102]
def kOr : List UInt8 := [111,114]
def gSemi : List UInt8 := [59]
def gColon : List UInt8 := [58]
def gComma : List UInt8 := [44]
def gEq : List UInt8 := [61]
def gNe : List UInt8 := [33,61]
def gLe : List UInt8 := [60,61]
def gDots : List UInt8 := [46,46]
def gOpen : List UInt8 := [91]
def gClose : List UInt8 := [93]
def gPlus : List UInt8 := [43]
def gStar : List UInt8 := [42]
def gNot : List UInt8 := [33]
def gMinus : List UInt8 := [45]
def becomes (sym : List UInt8) (kind : Int) (ts : List UInt8) : Option (List (List UInt8)) :=
 if sym = yModel then some (if kind = 107 then [yStatement,gSemi,yModel] else [])
 else if sym = yStatement then some (
  if ts = kVar then [kVar,yNAME,gColon,yINT,gDots,yINT]
  else if ts = kList then [kList,yNAME,gEq,gOpen,yINT,yInts,gClose]
  else if ts = kLin then [kLin,ySum,yINT]
  else if ts = kWhen then [kWhen,yNAME,gColon,ySum,yINT]
  else if ts = kAt then [kAt,yNAME,gOpen,yNAME,gClose,gEq,yNAME]
  else if ts = kDiff then [kDiff,yNAME,yNames]
  else [kOr,yLit,yLits])
 else if sym = yInts then some (if ts = gComma then [gComma,yINT,yInts] else [])
 else if sym = yNames then some (if ts = gComma then [gComma,yNAME,yNames] else [])
 else if sym = yLits then some (if ts = gComma then [gComma,yLit,yLits] else [])
 else if sym = yLit then some (if ts = gNot then [gNot,yNAME] else [yNAME])
 else if sym = ySum then some [yTerm,yTerms]
 else if sym = yTerms then some (if ts = gPlus ∨ ts = gMinus then [ts,yTerm,yTerms] else [yRel])
 else if sym = yTerm then some (if kind = 105 then [yINT,gStar,yNAME] else [yNAME])
 else if sym = yRel then some (if ts = gNe ∨ ts = gLe then [ts] else [gEq])
 else none
theorem own_lit {w : World} {base : Nat} {e : TypeId} (cs : Array Value) (hb : base ≤ w.heap.size) (hm : cs.size ≤ maxLen) : (w.alloc (.cells cs e)).ownsRow base e 1 (.slice (some ⟨w.heap.size,0,none⟩) cs.size cs.size) cs.size cs.toList := by
 refine ⟨by simp,.inr ⟨w.heap.size,cs.size,cs,rfl,hb,heap_alloc_new w _,Nat.le_refl _,hm,by simp,?_⟩⟩
 rw [Nat.mul_one,List.take_of_length_le (by simp)]
def strCells (l : List (List UInt8)) : List Value := l.map fun b => .string (bs b)
theorem own_lit2 {w : World} {e : TypeId} (o1 o2 : Obj) (cs : Array Value) (hm : cs.size ≤ maxLen) : (((w.alloc o1).alloc o2).alloc (.cells cs e)).ownsRow w.heap.size e 1 (.slice (some ⟨w.heap.size + 1 + 1,0,none⟩) cs.size cs.size) cs.size cs.toList := by
 have h := own_lit (w := (w.alloc o1).alloc o2) (base := w.heap.size) (e := e) cs (by simp;omega) hm
 simpa using h
theorem own_lit1 {w : World} {e : TypeId} (o1 : Obj) : ((w.alloc o1).alloc (.cells #[] e)).ownsRow w.heap.size e 1 (.slice (some ⟨w.heap.size + 1,0,none⟩) 0 0) 0 [] := by
 have h := own_lit (w := w.alloc o1) (base := w.heap.size) (e := e) #[] (by simp) (by unfold maxLen;simp)
 simpa using h
theorem below2 (w : World) (o1 o2 : Obj) : Below w.heap.size w ((w.alloc o1).alloc o2) := ((Below.refl _ _).alloc (Nat.le_refl _) _).alloc (by simp) _
theorem below3 (w : World) (o1 o2 o3 : Obj) : Below w.heap.size w (((w.alloc o1).alloc o2).alloc o3) := (below2 w o1 o2).alloc (by simp;omega) _
def BecPost (w : World) (L : List (List UInt8)) (e : Ending) (w' : World) : Prop :=
 ∃ g,e = .returned (.tuple #[.slice (some ⟨g,0,none⟩) L.length L.length,.bool true]) ∧ w'.ownsRow w.heap.size 9 1 (.slice (some ⟨g,0,none⟩) L.length L.length) L.length (strCells L) ∧ Below w.heap.size w w'
theorem not_beq {a b : List UInt8} (h : ¬ a = b) : (a == b) = false := by simpa using h
theorem bec_model_k (sym : ByteArray) (hsym : sym.toList = [109,111,100,101,108]) (ts : ByteArray) (kind line : Int) (h0 : (kind == 107) = true) (w : World) : Calls Tryz.prog 94 #[.string sym,.agg #[.string ts,.int .u8 kind,.int .i64 line]] w fun e w' => BecPost w [yStatement,gSemi,yModel] e w' := by
 go_enter Tryz.func94,Tryz.ntmps94
 go_wp2
 go_ret2
 exact ⟨_,rfl,own_lit2 _ _ _ (by unfold maxLen;simp),below3 _ _ _ _⟩
theorem bec_model_e (sym : ByteArray) (hsym : sym.toList = [109,111,100,101,108]) (ts : ByteArray) (kind line : Int) (h0 : (kind == 107) = false) (w : World) : Calls Tryz.prog 94 #[.string sym,.agg #[.string ts,.int .u8 kind,.int .i64 line]] w fun e w' => BecPost w [] e w' := by
 go_enter Tryz.func94,Tryz.ntmps94
 go_wp2
 go_ret2
 exact ⟨_,rfl,own_lit1 _,below2 _ _ _⟩
theorem bec_st_kVar (sym : ByteArray) (hsym : sym.toList = [115,116,97,116,101,109,101,110,116])  (kind line : Int)  (w : World) : Calls Tryz.prog 94 #[.string sym,.agg #[.string (bs [118,97,114]),.int .u8 kind,.int .i64 line]] w fun e w' => BecPost w [kVar,yNAME,gColon,yINT,gDots,yINT] e w' := by
 have hts : (bs [118,97,114]).toList = [118,97,114] := bs_toList _
 go_enter Tryz.func94,Tryz.ntmps94
 go_wp2
 go_ret2
 exact ⟨_,rfl,own_lit2 _ _ _ (by unfold maxLen;simp),below3 _ _ _ _⟩
theorem bec_st_kList (sym : ByteArray) (hsym : sym.toList = [115,116,97,116,101,109,101,110,116])  (kind line : Int)  (w : World) : Calls Tryz.prog 94 #[.string sym,.agg #[.string (bs [108,105,115,116]),.int .u8 kind,.int .i64 line]] w fun e w' => BecPost w [kList,yNAME,gEq,gOpen,yINT,yInts,gClose] e w' := by
 have hts : (bs [108,105,115,116]).toList = [108,105,115,116] := bs_toList _
 go_enter Tryz.func94,Tryz.ntmps94
 go_wp2
 go_ret2
 exact ⟨_,rfl,own_lit2 _ _ _ (by unfold maxLen;simp),below3 _ _ _ _⟩
theorem bec_st_kLin (sym : ByteArray) (hsym : sym.toList = [115,116,97,116,101,109,101,110,116])  (kind line : Int)  (w : World) : Calls Tryz.prog 94 #[.string sym,.agg #[.string (bs [108,105,110]),.int .u8 kind,.int .i64 line]] w fun e w' => BecPost w [kLin,ySum,yINT] e w' := by
 have hts : (bs [108,105,110]).toList = [108,105,110] := bs_toList _
 go_enter Tryz.func94,Tryz.ntmps94
 go_wp2
 go_ret2
 exact ⟨_,rfl,own_lit2 _ _ _ (by unfold maxLen;simp),below3 _ _ _ _⟩
theorem bec_st_kWhen (sym : ByteArray) (hsym : sym.toList = [115,116,97,116,101,109,101,110,116])  (kind line : Int)  (w : World) : Calls Tryz.prog 94 #[.string sym,.agg #[.string (bs [119,104,101,110]),.int .u8 kind,.int .i64 line]] w fun e w' => BecPost w [kWhen,yNAME,gColon,ySum,yINT] e w' := by
 have hts : (bs [119,104,101,110]).toList = [119,104,101,110] := bs_toList _
 go_enter Tryz.func94,Tryz.ntmps94
 go_wp2
 go_ret2
 exact ⟨_,rfl,own_lit2 _ _ _ (by unfold maxLen;simp),below3 _ _ _ _⟩
theorem bec_st_kAt (sym : ByteArray) (hsym : sym.toList = [115,116,97,116,101,109,101,110,116])  (kind line : Int)  (w : World) : Calls Tryz.prog 94 #[.string sym,.agg #[.string (bs [97,116]),.int .u8 kind,.int .i64 line]] w fun e w' => BecPost w [kAt,yNAME,gOpen,yNAME,gClose,gEq,yNAME] e w' := by
 have hts : (bs [97,116]).toList = [97,116] := bs_toList _
 go_enter Tryz.func94,Tryz.ntmps94
 go_wp2
 go_ret2
 exact ⟨_,rfl,own_lit2 _ _ _ (by unfold maxLen;simp),below3 _ _ _ _⟩
theorem bec_st_kDiff (sym : ByteArray) (hsym : sym.toList = [115,116,97,116,101,109,101,110,116])  (kind line : Int)  (w : World) : Calls Tryz.prog 94 #[.string sym,.agg #[.string (bs [100,105,102,102]),.int .u8 kind,.int .i64 line]] w fun e w' => BecPost w [kDiff,yNAME,yNames] e w' := by
 have hts : (bs [100,105,102,102]).toList = [100,105,102,102] := bs_toList _
 go_enter Tryz.func94,Tryz.ntmps94
 go_wp2
 go_ret2
 exact ⟨_,rfl,own_lit2 _ _ _ (by unfold maxLen;simp),below3 _ _ _ _⟩
theorem bec_st_or (sym : ByteArray) (hsym : sym.toList = [115,116,97,116,101,109,101,110,116]) (ts : ByteArray) (kind line : Int) (h0 : (ts.toList == [118,97,114]) = false) (h1 : (ts.toList == [108,105,115,116]) = false) (h2 : (ts.toList == [108,105,110]) = false) (h3 : (ts.toList == [119,104,101,110]) = false) (h4 : (ts.toList == [97,116]) = false) (h5 : (ts.toList == [100,105,102,102]) = false) (w : World) : Calls Tryz.prog 94 #[.string sym,.agg #[.string ts,.int .u8 kind,.int .i64 line]] w fun e w' => BecPost w [kOr,yLit,yLits] e w' := by
 go_enter Tryz.func94,Tryz.ntmps94
 go_wp2
 go_ret2
 exact ⟨_,rfl,own_lit2 _ _ _ (by unfold maxLen;simp),below3 _ _ _ _⟩
theorem bec_yInts_c (sym : ByteArray) (hsym : sym.toList = [105,110,116,115])  (kind line : Int)  (w : World) : Calls Tryz.prog 94 #[.string sym,.agg #[.string (bs [44]),.int .u8 kind,.int .i64 line]] w fun e w' => BecPost w [gComma,yINT,yInts] e w' := by
 have hts : (bs [44]).toList = [44] := bs_toList _
 go_enter Tryz.func94,Tryz.ntmps94
 go_wp2
 go_ret2
 exact ⟨_,rfl,own_lit2 _ _ _ (by unfold maxLen;simp),below3 _ _ _ _⟩
theorem bec_yInts_e (sym : ByteArray) (hsym : sym.toList = [105,110,116,115]) (ts : ByteArray) (kind line : Int) (h0 : (ts.toList == [44]) = false) (w : World) : Calls Tryz.prog 94 #[.string sym,.agg #[.string ts,.int .u8 kind,.int .i64 line]] w fun e w' => BecPost w [] e w' := by
 go_enter Tryz.func94,Tryz.ntmps94
 go_wp2
 go_ret2
 exact ⟨_,rfl,own_lit1 _,below2 _ _ _⟩
theorem bec_yNames_c (sym : ByteArray) (hsym : sym.toList = [110,97,109,101,115])  (kind line : Int)  (w : World) : Calls Tryz.prog 94 #[.string sym,.agg #[.string (bs [44]),.int .u8 kind,.int .i64 line]] w fun e w' => BecPost w [gComma,yNAME,yNames] e w' := by
 have hts : (bs [44]).toList = [44] := bs_toList _
 go_enter Tryz.func94,Tryz.ntmps94
 go_wp2
 go_ret2
 exact ⟨_,rfl,own_lit2 _ _ _ (by unfold maxLen;simp),below3 _ _ _ _⟩
theorem bec_yNames_e (sym : ByteArray) (hsym : sym.toList = [110,97,109,101,115]) (ts : ByteArray) (kind line : Int) (h0 : (ts.toList == [44]) = false) (w : World) : Calls Tryz.prog 94 #[.string sym,.agg #[.string ts,.int .u8 kind,.int .i64 line]] w fun e w' => BecPost w [] e w' := by
 go_enter Tryz.func94,Tryz.ntmps94
 go_wp2
 go_ret2
 exact ⟨_,rfl,own_lit1 _,below2 _ _ _⟩
theorem bec_yLits_c (sym : ByteArray) (hsym : sym.toList = [108,105,116,115])  (kind line : Int)  (w : World) : Calls Tryz.prog 94 #[.string sym,.agg #[.string (bs [44]),.int .u8 kind,.int .i64 line]] w fun e w' => BecPost w [gComma,yLit,yLits] e w' := by
 have hts : (bs [44]).toList = [44] := bs_toList _
 go_enter Tryz.func94,Tryz.ntmps94
 go_wp2
 go_ret2
 exact ⟨_,rfl,own_lit2 _ _ _ (by unfold maxLen;simp),below3 _ _ _ _⟩
theorem bec_yLits_e (sym : ByteArray) (hsym : sym.toList = [108,105,116,115]) (ts : ByteArray) (kind line : Int) (h0 : (ts.toList == [44]) = false) (w : World) : Calls Tryz.prog 94 #[.string sym,.agg #[.string ts,.int .u8 kind,.int .i64 line]] w fun e w' => BecPost w [] e w' := by
 go_enter Tryz.func94,Tryz.ntmps94
 go_wp2
 go_ret2
 exact ⟨_,rfl,own_lit1 _,below2 _ _ _⟩
theorem bec_lit_n (sym : ByteArray) (hsym : sym.toList = [108,105,116])  (kind line : Int)  (w : World) : Calls Tryz.prog 94 #[.string sym,.agg #[.string (bs [33]),.int .u8 kind,.int .i64 line]] w fun e w' => BecPost w [gNot,yNAME] e w' := by
 have hts : (bs [33]).toList = [33] := bs_toList _
 go_enter Tryz.func94,Tryz.ntmps94
 go_wp2
 go_ret2
 exact ⟨_,rfl,own_lit2 _ _ _ (by unfold maxLen;simp),below3 _ _ _ _⟩
theorem bec_lit_e (sym : ByteArray) (hsym : sym.toList = [108,105,116]) (ts : ByteArray) (kind line : Int) (h0 : (ts.toList == [33]) = false) (w : World) : Calls Tryz.prog 94 #[.string sym,.agg #[.string ts,.int .u8 kind,.int .i64 line]] w fun e w' => BecPost w [yNAME] e w' := by
 go_enter Tryz.func94,Tryz.ntmps94
 go_wp2
 go_ret2
 exact ⟨_,rfl,own_lit2 _ _ _ (by unfold maxLen;simp),below3 _ _ _ _⟩
theorem bec_sum (sym : ByteArray) (hsym : sym.toList = [115,117,109]) (ts : ByteArray) (kind line : Int)  (w : World) : Calls Tryz.prog 94 #[.string sym,.agg #[.string ts,.int .u8 kind,.int .i64 line]] w fun e w' => BecPost w [yTerm,yTerms] e w' := by
 go_enter Tryz.func94,Tryz.ntmps94
 go_wp2
 go_ret2
 exact ⟨_,rfl,own_lit2 _ _ _ (by unfold maxLen;simp),below3 _ _ _ _⟩
theorem bec_terms_p (sym : ByteArray) (hsym : sym.toList = [116,101,114,109,115])  (kind line : Int)  (w : World) : Calls Tryz.prog 94 #[.string sym,.agg #[.string (bs [43]),.int .u8 kind,.int .i64 line]] w fun e w' => BecPost w [gPlus,yTerm,yTerms] e w' := by
 have hts : (bs [43]).toList = [43] := bs_toList _
 go_enter Tryz.func94,Tryz.ntmps94
 go_wp2
 go_ret2
 exact ⟨_,rfl,own_lit2 _ _ _ (by unfold maxLen;simp),below3 _ _ _ _⟩
theorem bec_terms_m (sym : ByteArray) (hsym : sym.toList = [116,101,114,109,115])  (kind line : Int)  (w : World) : Calls Tryz.prog 94 #[.string sym,.agg #[.string (bs [45]),.int .u8 kind,.int .i64 line]] w fun e w' => BecPost w [gMinus,yTerm,yTerms] e w' := by
 have hts : (bs [45]).toList = [45] := bs_toList _
 go_enter Tryz.func94,Tryz.ntmps94
 go_wp2
 go_ret2
 exact ⟨_,rfl,own_lit2 _ _ _ (by unfold maxLen;simp),below3 _ _ _ _⟩
theorem bec_terms_e (sym : ByteArray) (hsym : sym.toList = [116,101,114,109,115]) (ts : ByteArray) (kind line : Int) (h0 : (ts.toList == [43]) = false) (h1 : (ts.toList == [45]) = false) (w : World) : Calls Tryz.prog 94 #[.string sym,.agg #[.string ts,.int .u8 kind,.int .i64 line]] w fun e w' => BecPost w [yRel] e w' := by
 go_enter Tryz.func94,Tryz.ntmps94
 go_wp2
 go_ret2
 exact ⟨_,rfl,own_lit2 _ _ _ (by unfold maxLen;simp),below3 _ _ _ _⟩
theorem bec_term_i (sym : ByteArray) (hsym : sym.toList = [116,101,114,109]) (ts : ByteArray) (kind line : Int) (h0 : (kind == 105) = true) (w : World) : Calls Tryz.prog 94 #[.string sym,.agg #[.string ts,.int .u8 kind,.int .i64 line]] w fun e w' => BecPost w [yINT,gStar,yNAME] e w' := by
 go_enter Tryz.func94,Tryz.ntmps94
 go_wp2
 go_ret2
 exact ⟨_,rfl,own_lit2 _ _ _ (by unfold maxLen;simp),below3 _ _ _ _⟩
theorem bec_term_e (sym : ByteArray) (hsym : sym.toList = [116,101,114,109]) (ts : ByteArray) (kind line : Int) (h0 : (kind == 105) = false) (w : World) : Calls Tryz.prog 94 #[.string sym,.agg #[.string ts,.int .u8 kind,.int .i64 line]] w fun e w' => BecPost w [yNAME] e w' := by
 go_enter Tryz.func94,Tryz.ntmps94
 go_wp2
 go_ret2
 exact ⟨_,rfl,own_lit2 _ _ _ (by unfold maxLen;simp),below3 _ _ _ _⟩
theorem bec_rel_n (sym : ByteArray) (hsym : sym.toList = [114,101,108])  (kind line : Int)  (w : World) : Calls Tryz.prog 94 #[.string sym,.agg #[.string (bs [33,61]),.int .u8 kind,.int .i64 line]] w fun e w' => BecPost w [gNe] e w' := by
 have hts : (bs [33,61]).toList = [33,61] := bs_toList _
 go_enter Tryz.func94,Tryz.ntmps94
 go_wp2
 go_ret2
 exact ⟨_,rfl,own_lit2 _ _ _ (by unfold maxLen;simp),below3 _ _ _ _⟩
theorem bec_rel_l (sym : ByteArray) (hsym : sym.toList = [114,101,108])  (kind line : Int)  (w : World) : Calls Tryz.prog 94 #[.string sym,.agg #[.string (bs [60,61]),.int .u8 kind,.int .i64 line]] w fun e w' => BecPost w [gLe] e w' := by
 have hts : (bs [60,61]).toList = [60,61] := bs_toList _
 go_enter Tryz.func94,Tryz.ntmps94
 go_wp2
 go_ret2
 exact ⟨_,rfl,own_lit2 _ _ _ (by unfold maxLen;simp),below3 _ _ _ _⟩
theorem bec_rel_e (sym : ByteArray) (hsym : sym.toList = [114,101,108]) (ts : ByteArray) (kind line : Int) (h0 : (ts.toList == [33,61]) = false) (h1 : (ts.toList == [60,61]) = false) (w : World) : Calls Tryz.prog 94 #[.string sym,.agg #[.string ts,.int .u8 kind,.int .i64 line]] w fun e w' => BecPost w [gEq] e w' := by
 go_enter Tryz.func94,Tryz.ntmps94
 go_wp2
 go_ret2
 exact ⟨_,rfl,own_lit2 _ _ _ (by unfold maxLen;simp),below3 _ _ _ _⟩
theorem bec_none (sym : ByteArray) (h0 : (sym.toList == [109,111,100,101,108]) = false) (h1 : (sym.toList == [115,116,97,116,101,109,101,110,116]) = false) (h2 : (sym.toList == [105,110,116,115]) = false) (h3 : (sym.toList == [110,97,109,101,115]) = false) (h4 : (sym.toList == [108,105,116,115]) = false) (h5 : (sym.toList == [108,105,116]) = false) (h6 : (sym.toList == [115,117,109]) = false) (h7 : (sym.toList == [116,101,114,109,115]) = false) (h8 : (sym.toList == [116,101,114,109]) = false) (h9 : (sym.toList == [114,101,108]) = false) (ts : ByteArray) (kind line : Int) (w : World) : Calls Tryz.prog 94 #[.string sym,.agg #[.string ts,.int .u8 kind,.int .i64 line]] w fun e w' =>
   e = .returned (.tuple #[.slice none 0 0,.bool false]) ∧ Below w.heap.size w w' := by
 go_enter Tryz.func94,Tryz.ntmps94
 go_wp2
 go_ret2
 exact ⟨rfl,below2 _ _ _⟩
theorem bec_fin {o : Option (List (List UInt8))} {L L' : List (List UInt8)} {p : FuncId} {a : Array Value} {w : World} (he : o = some L) (ho : o = some L') (h : Calls Tryz.prog p a w fun e w' => BecPost w L e w') : Calls Tryz.prog p a w fun e w' => BecPost w L' e w' := by
 subst ho;cases he;exact h
theorem ref_becomes_some (sym ts : ByteArray) (kind line : Int) (w : World) (L' : List (List UInt8)) (ho : becomes sym.toList kind ts.toList = some L') : Calls Tryz.prog 94 #[.string sym,.agg #[.string ts,.int .u8 kind,.int .i64 line]] w fun e w' => BecPost w L' e w' := by
 by_cases s0 : sym.toList = [109,111,100,101,108]
 ·by_cases k0 : (kind == 107) = true
  ·exact bec_fin (by rw [s0];simp [becomes,gClose,gColon,gComma,gDots,gEq,gLe,gMinus,gNe,gNot,gOpen,gPlus,gSemi,gStar,kAt,kDiff,kLin,kList,kOr,kVar,kWhen,yINT,yInts,yLit,yLits,yModel,yNAME,yNames,yRel,yStatement,ySum,yTerm,yTerms] at k0 ⊢;exact k0) ho (bec_model_k sym s0 ts kind line k0 w)
  exact bec_fin (by rw [s0];simp [becomes,gClose,gColon,gComma,gDots,gEq,gLe,gMinus,gNe,gNot,gOpen,gPlus,gSemi,gStar,kAt,kDiff,kLin,kList,kOr,kVar,kWhen,yINT,yInts,yLit,yLits,yModel,yNAME,yNames,yRel,yStatement,ySum,yTerm,yTerms] at k0 ⊢;exact k0) ho (bec_model_e sym s0 ts kind line (by simpa using k0) w)
 by_cases s1 : sym.toList = [115,116,97,116,101,109,101,110,116]
 ·by_cases k0 : ts.toList = [118,97,114]
  ·obtain rfl := bs_of ts _ k0
   exact bec_fin (by rw [bs_toList,s1];simp [becomes,gClose,gColon,gComma,gDots,gEq,gLe,gMinus,gNe,gNot,gOpen,gPlus,gSemi,gStar,kAt,kDiff,kLin,kList,kOr,kVar,kWhen,yINT,yInts,yLit,yLits,yModel,yNAME,yNames,yRel,yStatement,ySum,yTerm,yTerms]) ho (bec_st_kVar sym s1 kind line w)
  by_cases k1 : ts.toList = [108,105,115,116]
  ·obtain rfl := bs_of ts _ k1
   exact bec_fin (by rw [bs_toList,s1];simp [becomes,gClose,gColon,gComma,gDots,gEq,gLe,gMinus,gNe,gNot,gOpen,gPlus,gSemi,gStar,kAt,kDiff,kLin,kList,kOr,kVar,kWhen,yINT,yInts,yLit,yLits,yModel,yNAME,yNames,yRel,yStatement,ySum,yTerm,yTerms]) ho (bec_st_kList sym s1 kind line w)
  by_cases k2 : ts.toList = [108,105,110]
  ·obtain rfl := bs_of ts _ k2
   exact bec_fin (by rw [bs_toList,s1];simp [becomes,gClose,gColon,gComma,gDots,gEq,gLe,gMinus,gNe,gNot,gOpen,gPlus,gSemi,gStar,kAt,kDiff,kLin,kList,kOr,kVar,kWhen,yINT,yInts,yLit,yLits,yModel,yNAME,yNames,yRel,yStatement,ySum,yTerm,yTerms]) ho (bec_st_kLin sym s1 kind line w)
  by_cases k3 : ts.toList = [119,104,101,110]
  ·obtain rfl := bs_of ts _ k3
   exact bec_fin (by rw [bs_toList,s1];simp [becomes,gClose,gColon,gComma,gDots,gEq,gLe,gMinus,gNe,gNot,gOpen,gPlus,gSemi,gStar,kAt,kDiff,kLin,kList,kOr,kVar,kWhen,yINT,yInts,yLit,yLits,yModel,yNAME,yNames,yRel,yStatement,ySum,yTerm,yTerms]) ho (bec_st_kWhen sym s1 kind line w)
  by_cases k4 : ts.toList = [97,116]
  ·obtain rfl := bs_of ts _ k4
   exact bec_fin (by rw [bs_toList,s1];simp [becomes,gClose,gColon,gComma,gDots,gEq,gLe,gMinus,gNe,gNot,gOpen,gPlus,gSemi,gStar,kAt,kDiff,kLin,kList,kOr,kVar,kWhen,yINT,yInts,yLit,yLits,yModel,yNAME,yNames,yRel,yStatement,ySum,yTerm,yTerms]) ho (bec_st_kAt sym s1 kind line w)
  by_cases k5 : ts.toList = [100,105,102,102]
  ·obtain rfl := bs_of ts _ k5
   exact bec_fin (by rw [bs_toList,s1];simp [becomes,gClose,gColon,gComma,gDots,gEq,gLe,gMinus,gNe,gNot,gOpen,gPlus,gSemi,gStar,kAt,kDiff,kLin,kList,kOr,kVar,kWhen,yINT,yInts,yLit,yLits,yModel,yNAME,yNames,yRel,yStatement,ySum,yTerm,yTerms]) ho (bec_st_kDiff sym s1 kind line w)
  exact bec_fin (by rw [s1];simp [becomes,gClose,gColon,gComma,gDots,gEq,gLe,gMinus,gNe,gNot,gOpen,gPlus,gSemi,gStar,kAt,kDiff,kLin,kList,kOr,kVar,kWhen,yINT,yInts,yLit,yLits,yModel,yNAME,yNames,yRel,yStatement,ySum,yTerm,yTerms,k0,k1,k2,k3,k4,k5]) ho (bec_st_or sym s1 ts kind line (not_beq k0) (not_beq k1) (not_beq k2) (not_beq k3) (not_beq k4) (not_beq k5) w)
 by_cases s2 : sym.toList = [105,110,116,115]
 ·by_cases k0 : ts.toList = [44]
  ·obtain rfl := bs_of ts _ k0
   exact bec_fin (by rw [bs_toList,s2];simp [becomes,gClose,gColon,gComma,gDots,gEq,gLe,gMinus,gNe,gNot,gOpen,gPlus,gSemi,gStar,kAt,kDiff,kLin,kList,kOr,kVar,kWhen,yINT,yInts,yLit,yLits,yModel,yNAME,yNames,yRel,yStatement,ySum,yTerm,yTerms]) ho (bec_yInts_c sym s2 kind line w)
  exact bec_fin (by rw [s2];simp [becomes,gClose,gColon,gComma,gDots,gEq,gLe,gMinus,gNe,gNot,gOpen,gPlus,gSemi,gStar,kAt,kDiff,kLin,kList,kOr,kVar,kWhen,yINT,yInts,yLit,yLits,yModel,yNAME,yNames,yRel,yStatement,ySum,yTerm,yTerms,k0]) ho (bec_yInts_e sym s2 ts kind line (not_beq k0) w)
 by_cases s3 : sym.toList = [110,97,109,101,115]
 ·by_cases k0 : ts.toList = [44]
  ·obtain rfl := bs_of ts _ k0
   exact bec_fin (by rw [bs_toList,s3];simp [becomes,gClose,gColon,gComma,gDots,gEq,gLe,gMinus,gNe,gNot,gOpen,gPlus,gSemi,gStar,kAt,kDiff,kLin,kList,kOr,kVar,kWhen,yINT,yInts,yLit,yLits,yModel,yNAME,yNames,yRel,yStatement,ySum,yTerm,yTerms]) ho (bec_yNames_c sym s3 kind line w)
  exact bec_fin (by rw [s3];simp [becomes,gClose,gColon,gComma,gDots,gEq,gLe,gMinus,gNe,gNot,gOpen,gPlus,gSemi,gStar,kAt,kDiff,kLin,kList,kOr,kVar,kWhen,yINT,yInts,yLit,yLits,yModel,yNAME,yNames,yRel,yStatement,ySum,yTerm,yTerms,k0]) ho (bec_yNames_e sym s3 ts kind line (not_beq k0) w)
 by_cases s4 : sym.toList = [108,105,116,115]
 ·by_cases k0 : ts.toList = [44]
  ·obtain rfl := bs_of ts _ k0
   exact bec_fin (by rw [bs_toList,s4];simp [becomes,gClose,gColon,gComma,gDots,gEq,gLe,gMinus,gNe,gNot,gOpen,gPlus,gSemi,gStar,kAt,kDiff,kLin,kList,kOr,kVar,kWhen,yINT,yInts,yLit,yLits,yModel,yNAME,yNames,yRel,yStatement,ySum,yTerm,yTerms]) ho (bec_yLits_c sym s4 kind line w)
  exact bec_fin (by rw [s4];simp [becomes,gClose,gColon,gComma,gDots,gEq,gLe,gMinus,gNe,gNot,gOpen,gPlus,gSemi,gStar,kAt,kDiff,kLin,kList,kOr,kVar,kWhen,yINT,yInts,yLit,yLits,yModel,yNAME,yNames,yRel,yStatement,ySum,yTerm,yTerms,k0]) ho (bec_yLits_e sym s4 ts kind line (not_beq k0) w)
 by_cases s5 : sym.toList = [108,105,116]
 ·by_cases k0 : ts.toList = [33]
  ·obtain rfl := bs_of ts _ k0
   exact bec_fin (by rw [bs_toList,s5];simp [becomes,gClose,gColon,gComma,gDots,gEq,gLe,gMinus,gNe,gNot,gOpen,gPlus,gSemi,gStar,kAt,kDiff,kLin,kList,kOr,kVar,kWhen,yINT,yInts,yLit,yLits,yModel,yNAME,yNames,yRel,yStatement,ySum,yTerm,yTerms]) ho (bec_lit_n sym s5 kind line w)
  exact bec_fin (by rw [s5];simp [becomes,gClose,gColon,gComma,gDots,gEq,gLe,gMinus,gNe,gNot,gOpen,gPlus,gSemi,gStar,kAt,kDiff,kLin,kList,kOr,kVar,kWhen,yINT,yInts,yLit,yLits,yModel,yNAME,yNames,yRel,yStatement,ySum,yTerm,yTerms,k0]) ho (bec_lit_e sym s5 ts kind line (not_beq k0) w)
 by_cases s6 : sym.toList = [115,117,109]
 ·exact bec_fin (by rw [s6];simp [becomes,gClose,gColon,gComma,gDots,gEq,gLe,gMinus,gNe,gNot,gOpen,gPlus,gSemi,gStar,kAt,kDiff,kLin,kList,kOr,kVar,kWhen,yINT,yInts,yLit,yLits,yModel,yNAME,yNames,yRel,yStatement,ySum,yTerm,yTerms]) ho (bec_sum sym s6 ts kind line  w)
 by_cases s7 : sym.toList = [116,101,114,109,115]
 ·by_cases k0 : ts.toList = [43]
  ·obtain rfl := bs_of ts _ k0
   exact bec_fin (by rw [bs_toList,s7];simp [becomes,gClose,gColon,gComma,gDots,gEq,gLe,gMinus,gNe,gNot,gOpen,gPlus,gSemi,gStar,kAt,kDiff,kLin,kList,kOr,kVar,kWhen,yINT,yInts,yLit,yLits,yModel,yNAME,yNames,yRel,yStatement,ySum,yTerm,yTerms]) ho (bec_terms_p sym s7 kind line w)
  by_cases k1 : ts.toList = [45]
  ·obtain rfl := bs_of ts _ k1
   exact bec_fin (by rw [bs_toList,s7];simp [becomes,gClose,gColon,gComma,gDots,gEq,gLe,gMinus,gNe,gNot,gOpen,gPlus,gSemi,gStar,kAt,kDiff,kLin,kList,kOr,kVar,kWhen,yINT,yInts,yLit,yLits,yModel,yNAME,yNames,yRel,yStatement,ySum,yTerm,yTerms]) ho (bec_terms_m sym s7 kind line w)
  exact bec_fin (by rw [s7];simp [becomes,gClose,gColon,gComma,gDots,gEq,gLe,gMinus,gNe,gNot,gOpen,gPlus,gSemi,gStar,kAt,kDiff,kLin,kList,kOr,kVar,kWhen,yINT,yInts,yLit,yLits,yModel,yNAME,yNames,yRel,yStatement,ySum,yTerm,yTerms,k0,k1]) ho (bec_terms_e sym s7 ts kind line (not_beq k0) (not_beq k1) w)
 by_cases s8 : sym.toList = [116,101,114,109]
 ·by_cases k0 : (kind == 105) = true
  ·exact bec_fin (by rw [s8];simp [becomes,gClose,gColon,gComma,gDots,gEq,gLe,gMinus,gNe,gNot,gOpen,gPlus,gSemi,gStar,kAt,kDiff,kLin,kList,kOr,kVar,kWhen,yINT,yInts,yLit,yLits,yModel,yNAME,yNames,yRel,yStatement,ySum,yTerm,yTerms] at k0 ⊢;exact k0) ho (bec_term_i sym s8 ts kind line k0 w)
  exact bec_fin (by rw [s8];simp [becomes,gClose,gColon,gComma,gDots,gEq,gLe,gMinus,gNe,gNot,gOpen,gPlus,gSemi,gStar,kAt,kDiff,kLin,kList,kOr,kVar,kWhen,yINT,yInts,yLit,yLits,yModel,yNAME,yNames,yRel,yStatement,ySum,yTerm,yTerms] at k0 ⊢;exact k0) ho (bec_term_e sym s8 ts kind line (by simpa using k0) w)
 by_cases s9 : sym.toList = [114,101,108]
 ·by_cases k0 : ts.toList = [33,61]
  ·obtain rfl := bs_of ts _ k0
   exact bec_fin (by rw [bs_toList,s9];simp [becomes,gClose,gColon,gComma,gDots,gEq,gLe,gMinus,gNe,gNot,gOpen,gPlus,gSemi,gStar,kAt,kDiff,kLin,kList,kOr,kVar,kWhen,yINT,yInts,yLit,yLits,yModel,yNAME,yNames,yRel,yStatement,ySum,yTerm,yTerms]) ho (bec_rel_n sym s9 kind line w)
  by_cases k1 : ts.toList = [60,61]
  ·obtain rfl := bs_of ts _ k1
   exact bec_fin (by rw [bs_toList,s9];simp [becomes,gClose,gColon,gComma,gDots,gEq,gLe,gMinus,gNe,gNot,gOpen,gPlus,gSemi,gStar,kAt,kDiff,kLin,kList,kOr,kVar,kWhen,yINT,yInts,yLit,yLits,yModel,yNAME,yNames,yRel,yStatement,ySum,yTerm,yTerms]) ho (bec_rel_l sym s9 kind line w)
  exact bec_fin (by rw [s9];simp [becomes,gClose,gColon,gComma,gDots,gEq,gLe,gMinus,gNe,gNot,gOpen,gPlus,gSemi,gStar,kAt,kDiff,kLin,kList,kOr,kVar,kWhen,yINT,yInts,yLit,yLits,yModel,yNAME,yNames,yRel,yStatement,ySum,yTerm,yTerms,k0,k1]) ho (bec_rel_e sym s9 ts kind line (not_beq k0) (not_beq k1) w)
 have e : becomes sym.toList kind ts.toList = none := by
  unfold becomes
  rw [if_neg (show ¬ sym.toList = yModel from s0)]
  rw [if_neg (show ¬ sym.toList = yStatement from s1)]
  rw [if_neg (show ¬ sym.toList = yInts from s2)]
  rw [if_neg (show ¬ sym.toList = yNames from s3)]
  rw [if_neg (show ¬ sym.toList = yLits from s4)]
  rw [if_neg (show ¬ sym.toList = yLit from s5)]
  rw [if_neg (show ¬ sym.toList = ySum from s6)]
  rw [if_neg (show ¬ sym.toList = yTerms from s7)]
  rw [if_neg (show ¬ sym.toList = yTerm from s8)]
  rw [if_neg (show ¬ sym.toList = yRel from s9)]
 rw [e] at ho
 cases ho
theorem ref_becomes_none (sym ts : ByteArray) (kind line : Int) (w : World) (ho : becomes sym.toList kind ts.toList = none) : Calls Tryz.prog 94 #[.string sym,.agg #[.string ts,.int .u8 kind,.int .i64 line]] w fun e w' =>
   e = .returned (.tuple #[.slice none 0 0,.bool false]) ∧ Below w.heap.size w w' := by
 by_cases s0 : sym.toList = [109,111,100,101,108]
 ·rw [s0] at ho;simp [becomes,gClose,gColon,gComma,gDots,gEq,gLe,gMinus,gNe,gNot,gOpen,gPlus,gSemi,gStar,kAt,kDiff,kLin,kList,kOr,kVar,kWhen,yINT,yInts,yLit,yLits,yModel,yNAME,yNames,yRel,yStatement,ySum,yTerm,yTerms] at ho
 by_cases s1 : sym.toList = [115,116,97,116,101,109,101,110,116]
 ·rw [s1] at ho;simp [becomes,gClose,gColon,gComma,gDots,gEq,gLe,gMinus,gNe,gNot,gOpen,gPlus,gSemi,gStar,kAt,kDiff,kLin,kList,kOr,kVar,kWhen,yINT,yInts,yLit,yLits,yModel,yNAME,yNames,yRel,yStatement,ySum,yTerm,yTerms] at ho
 by_cases s2 : sym.toList = [105,110,116,115]
 ·rw [s2] at ho;simp [becomes,gClose,gColon,gComma,gDots,gEq,gLe,gMinus,gNe,gNot,gOpen,gPlus,gSemi,gStar,kAt,kDiff,kLin,kList,kOr,kVar,kWhen,yINT,yInts,yLit,yLits,yModel,yNAME,yNames,yRel,yStatement,ySum,yTerm,yTerms] at ho
 by_cases s3 : sym.toList = [110,97,109,101,115]
 ·rw [s3] at ho;simp [becomes,gClose,gColon,gComma,gDots,gEq,gLe,gMinus,gNe,gNot,gOpen,gPlus,gSemi,gStar,kAt,kDiff,kLin,kList,kOr,kVar,kWhen,yINT,yInts,yLit,yLits,yModel,yNAME,yNames,yRel,yStatement,ySum,yTerm,yTerms] at ho
 by_cases s4 : sym.toList = [108,105,116,115]
 ·rw [s4] at ho;simp [becomes,gClose,gColon,gComma,gDots,gEq,gLe,gMinus,gNe,gNot,gOpen,gPlus,gSemi,gStar,kAt,kDiff,kLin,kList,kOr,kVar,kWhen,yINT,yInts,yLit,yLits,yModel,yNAME,yNames,yRel,yStatement,ySum,yTerm,yTerms] at ho
 by_cases s5 : sym.toList = [108,105,116]
 ·rw [s5] at ho;simp [becomes,gClose,gColon,gComma,gDots,gEq,gLe,gMinus,gNe,gNot,gOpen,gPlus,gSemi,gStar,kAt,kDiff,kLin,kList,kOr,kVar,kWhen,yINT,yInts,yLit,yLits,yModel,yNAME,yNames,yRel,yStatement,ySum,yTerm,yTerms] at ho
 by_cases s6 : sym.toList = [115,117,109]
 ·rw [s6] at ho;simp [becomes,gClose,gColon,gComma,gDots,gEq,gLe,gMinus,gNe,gNot,gOpen,gPlus,gSemi,gStar,kAt,kDiff,kLin,kList,kOr,kVar,kWhen,yINT,yInts,yLit,yLits,yModel,yNAME,yNames,yRel,yStatement,ySum,yTerm,yTerms] at ho
 by_cases s7 : sym.toList = [116,101,114,109,115]
 ·rw [s7] at ho;simp [becomes,gClose,gColon,gComma,gDots,gEq,gLe,gMinus,gNe,gNot,gOpen,gPlus,gSemi,gStar,kAt,kDiff,kLin,kList,kOr,kVar,kWhen,yINT,yInts,yLit,yLits,yModel,yNAME,yNames,yRel,yStatement,ySum,yTerm,yTerms] at ho
 by_cases s8 : sym.toList = [116,101,114,109]
 ·rw [s8] at ho;simp [becomes,gClose,gColon,gComma,gDots,gEq,gLe,gMinus,gNe,gNot,gOpen,gPlus,gSemi,gStar,kAt,kDiff,kLin,kList,kOr,kVar,kWhen,yINT,yInts,yLit,yLits,yModel,yNAME,yNames,yRel,yStatement,ySum,yTerm,yTerms] at ho
 by_cases s9 : sym.toList = [114,101,108]
 ·rw [s9] at ho;simp [becomes,gClose,gColon,gComma,gDots,gEq,gLe,gMinus,gNe,gNot,gOpen,gPlus,gSemi,gStar,kAt,kDiff,kLin,kList,kOr,kVar,kWhen,yINT,yInts,yLit,yLits,yModel,yNAME,yNames,yRel,yStatement,ySum,yTerm,yTerms] at ho
 exact bec_none sym (not_beq s0) (not_beq s1) (not_beq s2) (not_beq s3) (not_beq s4) (not_beq s5) (not_beq s6) (not_beq s7) (not_beq s8) (not_beq s9) ts kind line w
end
section
def eofTok : PTok := ⟨ByteArray.empty,101,0⟩
def hand (l : List PTok) : PTok := l.headD eofTok
def fits (y : List UInt8) (t : PTok) : Bool :=
 if y = yINT then decide (t.kind = 105) else if y = yNAME then decide (t.kind = 110) else y == t.s.toList && t.kind != 101
def formF : Nat → List (List UInt8) → List PTok → Option Int
 | 0,_,_ => none
 | f + 1,want,l =>
  match want with
  | [] => some (match l with | [] => 0 | t :: _ => t.line)
  | y :: rest =>
   match becomes y (hand l).kind (hand l).s.toList with
   | some next => formF f (next ++ rest) l
   | none => if fits y (hand l) then formF f rest l.tail else some (if (hand l).kind = 101 then -1 else (hand l).line)
theorem formF_nil (f : Nat) (l : List PTok) : formF (f + 1) [] l = some (match l with | [] => (0 : Int) | t :: _ => (t.line : Int)) := rfl
theorem formF_some {f : Nat} {y : List UInt8} {rest next : List (List UInt8)} {l : List PTok} (h : becomes y (hand l).kind (hand l).s.toList = some next) : formF (f + 1) (y :: rest) l = formF f (next ++ rest) l := by
 simp only [formF,h]
theorem formF_take {f : Nat} {y : List UInt8} {rest : List (List UInt8)} {l : List PTok} (h : becomes y (hand l).kind (hand l).s.toList = none) (hf : fits y (hand l) = true) : formF (f + 1) (y :: rest) l = formF f rest l.tail := by
 simp only [formF,h,hf,if_true]
theorem formF_bad {f : Nat} {y : List UInt8} {rest : List (List UInt8)} {l : List PTok} (h : becomes y (hand l).kind (hand l).s.toList = none) (hf : fits y (hand l) = false) : formF (f + 1) (y :: rest) l = some (if (hand l).kind = 101 then (-1 : Int) else ((hand l).line : Int)) := by
 simp only [formF,h,hf,Bool.false_eq_true,if_false]
end
end Go.Proofs.YthpcbbnabnlanaaGreatDoor
