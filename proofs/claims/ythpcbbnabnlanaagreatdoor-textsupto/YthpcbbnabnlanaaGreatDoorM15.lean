import Derived.Test.YthpcbbnabnlanaaGreatDoorM01
import Derived.Test.YthpcbbnabnlanaaGreatDoorM02
import Derived.Deep.AppendLies
namespace Go.Proofs.YthpcbbnabnlanaaGreatDoor
open Go.RowKit
set_option linter.unusedVariables false
set_option linter.unusedSimpArgs false
section
set_option maxHeartbeats 20000000
set_option maxRecDepth 100000
theorem infoTok : (Tryz.prog.info? 170).map (fun i => (i.zero,i.size,i.bytes)) = some (some (.agg #[.string .empty,.int .u8 0,.int .i64 0]),3,32) := by kernel_rfl
def TokRel (s : ByteArray) (w : World) (vl vline vi : Value) (wr : World) : Prop :=
 ∃ (i line f : Nat) (acc : List PTok),i ≤ s.size ∧ vi = .int .i64 i ∧ vline = .int .i64 line ∧ line ≤ i + 1 ∧ acc.length ≤ i ∧ s.size ≤ i + f ∧ Hid (lexF s f i line acc = lex s) ∧
  wr.ownsRow w.heap.size 170 3 vl acc.length (refCells acc) ∧ Below w.heap.size w wr
theorem tok_step {s : ByteArray} {w wr w1 : World} {vl v' : Value} {o : Obj} {i k line f : Nat} {kind : Int} {acc : List PTok} (hk1 : i < k) (hk2 : k ≤ s.size) (hline : line ≤ i + 1) (hacc : acc.length ≤ i) (hf : s.size ≤ i + (f + 1)) (hl : Hid (lexF s f k line (acc ++ [⟨s.extract i k,kind,line⟩]) = lex s)) (hown : wr.ownsRow w.heap.size 170 3 vl acc.length (refCells acc)) (hb : Below w.heap.size w wr) (hown' : w1.ownsRow w.heap.size 170 3 v' (acc.length + 1) (refCells acc ++ [.string (s.extract i k),.int .u8 kind,.int .i64 line])) (hgrow : (wr.alloc o).grownBy w1 vl.ownBlock) : TokRel s w v' (.int .i64 line) (.int .i64 k) w1 := by
 refine ⟨k,line,f,acc ++ [⟨s.extract i k,kind,line⟩],hk2,rfl,rfl,by omega,by simp;omega,by omega,hl,?_,?_⟩
 ·rw [refCells_snoc];simpa using hown'
 ·exact (hb.alloc hb.size o).grown hgrow (by have := hb.size;simp;omega) (fun j hj => (hown.lt j hj).1)
theorem tok_news (w : World) (a b c : Value) (t : TypeId) : ∀ j u,[a,b,c][j]? = some u → (w.alloc (.cells #[a,b,c] t)).cell? ((⟨w.heap.size,0,none⟩ : Addr).add j) = some u :=
 World.news_of_block (heap_alloc_new w _)
theorem sign_size (s : ByteArray) (i : Nat) (h : i < s.size) : i + signLen s i ≤ s.size ∧ signLen s i ≤ 2 := by
 unfold signLen
 split
 ·rename_i h2
  rcases Nat.lt_or_ge (i + 1) s.size with h1 | h1
  ·omega
  ·rw [bAt_out h1] at h2;simp [twoI] at h2
 ·split <;> omega
theorem tok_one (a : ByteArray) (b c : Int) : ∀ u ∈ [Value.string a,.int .u8 b,.int .i64 c],u.oneCell' = true := by
 intro u hu;simp at hu;rcases hu with rfl | rfl | rfl <;> rfl
theorem ref_Tokens (s : ByteArray) (w : World) (hs : s.size ≤ 2000) : Calls Tryz.prog 52 #[.string s] w fun e w' => ∃ v,e = .returned (.tuple #[v,.int .i64 (lex s).1]) ∧
   w'.ownsRow w.heap.size 170 3 v (lex s).2.1.length (refCells (lex s).2.1) ∧ Below w.heap.size w w' := by
 obtain ⟨i0,hi,hz0,hz1,hz2⟩ := info_parts infoTok
 go_enter Tryz.func52,Tryz.ntmps52
 go_wp2
 go_loopw [4,5,6] (fun vl vline vi wr => TokRel s w vl vline vi wr) (fun _ _ vi _ => s.size - (intOf vi).toNat)
 case atStart => exact ⟨0,1,s.size,[],Nat.zero_le _,rfl,rfl,by omega,by simp,by omega,rfl,World.ownsRow_nil _ _ _ _,Below.refl _ _⟩
 case round =>
  obtain ⟨i,line,f,acc,hile,rfl,rfl,hline,hacc,hf,hlex,hown,hb⟩ := hrel
  by_cases hlt : i < s.size
  ·obtain ⟨f,rfl⟩ : ∃ g,f = g + 1 := ⟨f - 1,by omega⟩
   have hbin := bAt_in hlt
   by_cases h10 : bAt s i = 10
   ·have hl : Hid (lexF s f (i + 1) (line + 1) acc = lex s) := by rw [← hlex.out];exact (lexF_nl hlt h10).symm
    have c10 : ((s[i].toNat : Int) == 10) = true := by rw [← hbin,h10];rfl
    clear hbin h10 hlex
    go_wp2
    go_roundw
    case rel => exact ⟨i + 1,line + 1,f,acc,by omega,by go_num,by go_num,by omega,by omega,by omega,hl,hown,hb⟩
    case measure => simp [intOf];omega
   ·have c10 : ((s[i].toNat : Int) == 10) = false := by rw [← hbin];simpa using h10
    by_cases hbl : bAt s i = 32 ∨ bAt s i = 9
    ·have hl : Hid (lexF s f (i + 1) line acc = lex s) := by rw [← hlex.out];exact (lexF_blank hlt hbl).symm
     have c32 : ((s[i].toNat : Int) == 32 || (s[i].toNat : Int) == 9) = true := by rw [← hbin];simpa using hbl
     clear h10 hlex hbin hbl
     go_wp2
     all_goals go_roundw
     case rel => exact ⟨i + 1,line,f,acc,by omega,by go_num,rfl,by omega,by omega,by omega,hl,hown,hb⟩
     case measure => simp [intOf];omega
     case rel => exact ⟨i + 1,line,f,acc,by omega,by go_num,rfl,by omega,by omega,by omega,hl,hown,hb⟩
     case measure => simp [intOf];omega
    ·have c32 : ((s[i].toNat : Int) == 32) = false := by rw [← hbin];simp;omega
     have c9 : ((s[i].toNat : Int) == 9) = false := by rw [← hbin];simp;omega
     by_cases h37 : bAt s i = 37
     ·have hl : Hid (lexF s f (runTo notNl s i) line acc = lex s) := by rw [← hlex.out];exact (lexF_rest hlt h37).symm
      have c37 : ((s[i].toNat : Int) == 37) = true := by rw [← hbin,h37];rfl
      have hgo : runTo notNl s i = runTo notNl s (i + 1) := runTo_yes _ _ _ hlt (by rw [h37];rfl)
      have hgo' := runTo_le notNl s (i + 1)
      have hend := runTo_size notNl s i (by omega)
      have HG : Hid (i + 1 ≤ runTo notNl s i ∧ runTo notNl s i ≤ s.size) := by unfold Hid;omega
      clear h10 hlex hbin hbl hgo hgo' hend h37
      go_wp2
      go_loop [6] (fun vk => ∃ k : Nat,k ≤ s.size ∧ vk = .int .i64 k ∧ Hid (runTo notNl s k = runTo notNl s i)) (fun vk => s.size - (intOf vk).toNat)
      case atStart => exact ⟨i,by omega,rfl,rfl⟩
      case round =>
       obtain ⟨k,hk,rfl,hrun⟩ := hrel
       by_cases hkl : k < s.size
       ·have hbk := bAt_in hkl
        by_cases hk10 : bAt s k = 10
        ·have ck : ((s[k].toNat : Int) != 10) = false := by rw [← hbk,hk10];rfl
         have he : Hid (k = runTo notNl s i) := by rw [← hrun.out];exact (runTo_no _ _ _ (by rw [hk10];rfl)).symm
         clear hbk hk10 hrun
         go_wp2
         go_roundw
         case rel => exact ⟨k,line,f,acc,hk,rfl,rfl,by have := HG.out;have := he.out;omega,by have := HG.out;have := he.out;omega,by have := HG.out;have := he.out;omega,by rw [he.out];exact hl,hown,hb⟩
         case measure => have := HG.out;have := he.out;simp [intOf];omega
        ·have ck : ((s[k].toNat : Int) != 10) = true := by rw [← hbk];simpa using hk10
         have hr2 : Hid (runTo notNl s (k + 1) = runTo notNl s i) := by rw [← hrun.out];exact (runTo_yes _ _ _ hkl (by have := bAt_lt hkl;simp [notNl];omega)).symm
         clear hbk hk10 hrun
         go_wp2
         go_round
         case rel => exact ⟨k + 1,by omega,by go_num,hr2⟩
         case measure => simp [intOf];omega
       ·have he : Hid (k = runTo notNl s i) := by rw [← hrun.out];exact (runTo_end _ _ _ (by omega)).symm
        have hks : (s.size : Int) ≤ (k : Int) := by omega
        clear hkl hrun
        go_wp2
        go_roundw
        case rel => exact ⟨k,line,f,acc,hk,rfl,rfl,by have := HG.out;have := he.out;omega,by have := HG.out;have := he.out;omega,by have := HG.out;have := he.out;omega,by rw [he.out];exact hl,hown,hb⟩
        case measure => have := HG.out;have := he.out;simp [intOf];omega
     ·have c37 : ((s[i].toNat : Int) == 37) = false := by rw [← hbin];simpa using h37
      by_cases hnum : isNum s i = true
      ·have hle := runTo_le isDigI s (i + 1)
       have hend := runTo_size isDigI s (i + 1) (by omega)
       have HG : Hid (i + 1 ≤ runTo isDigI s (i + 1) ∧ runTo isDigI s (i + 1) ≤ s.size) := ⟨hle,hend⟩
       have HT : Hid (tokAt s i = if 10 < runTo isDigI s (i + 1) - i then (0,105) else (runTo isDigI s (i + 1),105)) := by simp only [Hid,tokAt,hnum,if_true]
       have HL := hlex
       have HN : Hid (¬ bAt s i = 10 ∧ ¬ (bAt s i = 32 ∨ bAt s i = 9) ∧ ¬ bAt s i = 37) := ⟨h10,hbl,h37⟩
       by_cases hd : isDigI (bAt s i) = true
       ·have cd : isDigI (s[i].toNat : Int) = true := by rw [← hbin];exact hd
        have c45 : ((s[i].toNat : Int) == 45) = false := by rw [← hbin];simp [isDigI] at hd;simp;omega
        clear hlex h10 hbl h37 hbin hd hnum hle hend
        go_wp2_with (first | (go_at_call 90;refine (ref_digit _ _).mono ?_;rintro e w' ⟨rfl,hww⟩;subst w') | (go_at_call 91;refine (ref_small _ _).mono ?_;rintro e w' ⟨rfl,hww⟩;subst w'))
        go_loop [8] (fun vk => ∃ k : Nat,k ≤ s.size ∧ vk = .int .i64 k ∧ Hid (runTo isDigI s k = runTo isDigI s (i + 1))) (fun vk => s.size - (intOf vk).toNat)
        case atStart => exact ⟨i + 1,by omega,by go_num,rfl⟩
        case round =>
         obtain ⟨k,hk,rfl,hrun⟩ := hrel
         by_cases hkl : k < s.size
         ·have hbk := bAt_in hkl
          by_cases h48 : 48 ≤ bAt s k
          ·by_cases h57 : bAt s k ≤ 57
           ·have ck : (48 : Int) ≤ (s[k].toNat : Int) := by omega
            have ck' : (s[k].toNat : Int) ≤ 57 := by omega
            have hr2 : Hid (runTo isDigI s (k + 1) = runTo isDigI s (i + 1)) := by rw [← hrun.out];exact (runTo_yes _ _ _ hkl (by simp [isDigI];omega)).symm
            clear hbk h48 h57 hrun
            go_wp2
            go_round
            case rel => exact ⟨k + 1,by omega,by go_num,hr2⟩
            case measure => simp [intOf];omega
           ·have ck : (48 : Int) ≤ (s[k].toNat : Int) := by omega
            have ck' : (57 : Int) < (s[k].toNat : Int) := by omega
            have he : Hid (k = runTo isDigI s (i + 1)) := by rw [← hrun.out];exact (runTo_no _ _ _ (by simp [isDigI];omega)).symm
            clear hbk h48 h57 hrun
            as_aux_lemma =>
             by_cases hlong : 10 < k - i
             ·have hl : Hid (lex s = (line,[],line)) := by
               rw [← HL.out];exact lexF_bad hlt HN.out.1 HN.out.2.1 HN.out.2.2 (by rw [HT.out,← he.out,if_pos hlong])
              have clong : (10 : Int) < (k : Int) - (i : Int) := by omega
              clear hlong
              go_wp2
              go_ret2
              rw [hl.out]
              exact ⟨_,rfl,World.ownsRow_nil _ _ _ _,hb⟩
             ·have hik : i < k := by have := HG.out;have := he.out;omega
              have ht : tokAt s i = (k,105) := by rw [HT.out,← he.out,if_neg hlong]
              have hl : Hid (lexF s f k line (acc ++ [⟨s.extract i k,105,line⟩]) = lex s) := by
               rw [← HL.out,lexF_tok hlt HN.out.1 HN.out.2.1 HN.out.2.2 (by rw [ht];show k ≠ 0;omega),ht];rfl
              have clong : (k : Int) - (i : Int) ≤ 10 := by omega
              clear hlong ht
              go_wp2_with (at_builtin;refine wpList_append_own _ rfl _ _ 107 rfl w.heap.size 170 i0 (.agg #[.string .empty,.int .u8 0,.int .i64 0]) 3 32 Tryz.underlying107 hi hz0 hz1 hz2 rfl (by decide) _ _ _ rfl (hown.alloc _) ⟨wr.heap.size,0,none⟩ 1 1 [.string (s.extract i k),.int .u8 105,.int .i64 line] rfl rfl (tok_news _ _ _ _ _) (tok_one _ _ _) ?c3 ?c4 ?c5 ?_)
              case c3 => unfold maxLen;omega
              case c4 => omega
              case c5 => have := hb.size;simp;omega
              intro v' w1 hown' hgrow _
              have R := tok_step hik hk hline hacc hf hl hown hb hown' hgrow
              clear hown' hgrow hown
              go_wp2
              go_roundw
              case rel => exact R
              case measure => simp [intOf];omega
          ·have ck : (s[k].toNat : Int) < 48 := by omega
           have he : Hid (k = runTo isDigI s (i + 1)) := by rw [← hrun.out];exact (runTo_no _ _ _ (by simp [isDigI];omega)).symm
           clear hbk h48 hrun
           as_aux_lemma =>
            by_cases hlong : 10 < k - i
            ·have hl : Hid (lex s = (line,[],line)) := by
              rw [← HL.out];exact lexF_bad hlt HN.out.1 HN.out.2.1 HN.out.2.2 (by rw [HT.out,← he.out,if_pos hlong])
             have clong : (10 : Int) < (k : Int) - (i : Int) := by omega
             clear hlong
             go_wp2
             go_ret2
             rw [hl.out]
             exact ⟨_,rfl,World.ownsRow_nil _ _ _ _,hb⟩
            ·have hik : i < k := by have := HG.out;have := he.out;omega
             have ht : tokAt s i = (k,105) := by rw [HT.out,← he.out,if_neg hlong]
             have hl : Hid (lexF s f k line (acc ++ [⟨s.extract i k,105,line⟩]) = lex s) := by
              rw [← HL.out,lexF_tok hlt HN.out.1 HN.out.2.1 HN.out.2.2 (by rw [ht];show k ≠ 0;omega),ht];rfl
             have clong : (k : Int) - (i : Int) ≤ 10 := by omega
             clear hlong ht
             go_wp2_with (at_builtin;refine wpList_append_own _ rfl _ _ 107 rfl w.heap.size 170 i0 (.agg #[.string .empty,.int .u8 0,.int .i64 0]) 3 32 Tryz.underlying107 hi hz0 hz1 hz2 rfl (by decide) _ _ _ rfl (hown.alloc _) ⟨wr.heap.size,0,none⟩ 1 1 [.string (s.extract i k),.int .u8 105,.int .i64 line] rfl rfl (tok_news _ _ _ _ _) (tok_one _ _ _) ?c3 ?c4 ?c5 ?_)
             case c3 => unfold maxLen;omega
             case c4 => omega
             case c5 => have := hb.size;simp;omega
             intro v' w1 hown' hgrow _
             have R := tok_step hik hk hline hacc hf hl hown hb hown' hgrow
             clear hown' hgrow hown
             go_wp2
             go_roundw
             case rel => exact R
             case measure => simp [intOf];omega
         ·have he : Hid (k = runTo isDigI s (i + 1)) := by rw [← hrun.out];exact (runTo_end _ _ _ (by omega)).symm
          have hks : (s.size : Int) ≤ (k : Int) := by omega
          clear hkl hrun
          as_aux_lemma =>
           by_cases hlong : 10 < k - i
           ·have hl : Hid (lex s = (line,[],line)) := by
             rw [← HL.out];exact lexF_bad hlt HN.out.1 HN.out.2.1 HN.out.2.2 (by rw [HT.out,← he.out,if_pos hlong])
            have clong : (10 : Int) < (k : Int) - (i : Int) := by omega
            clear hlong
            go_wp2
            go_ret2
            rw [hl.out]
            exact ⟨_,rfl,World.ownsRow_nil _ _ _ _,hb⟩
           ·have hik : i < k := by have := HG.out;have := he.out;omega
            have ht : tokAt s i = (k,105) := by rw [HT.out,← he.out,if_neg hlong]
            have hl : Hid (lexF s f k line (acc ++ [⟨s.extract i k,105,line⟩]) = lex s) := by
             rw [← HL.out,lexF_tok hlt HN.out.1 HN.out.2.1 HN.out.2.2 (by rw [ht];show k ≠ 0;omega),ht];rfl
            have clong : (k : Int) - (i : Int) ≤ 10 := by omega
            clear hlong ht
            go_wp2_with (at_builtin;refine wpList_append_own _ rfl _ _ 107 rfl w.heap.size 170 i0 (.agg #[.string .empty,.int .u8 0,.int .i64 0]) 3 32 Tryz.underlying107 hi hz0 hz1 hz2 rfl (by decide) _ _ _ rfl (hown.alloc _) ⟨wr.heap.size,0,none⟩ 1 1 [.string (s.extract i k),.int .u8 105,.int .i64 line] rfl rfl (tok_news _ _ _ _ _) (tok_one _ _ _) ?c3 ?c4 ?c5 ?_)
            case c3 => unfold maxLen;omega
            case c4 => omega
            case c5 => have := hb.size;simp;omega
            intro v' w1 hown' hgrow _
            have R := tok_step hik hk hline hacc hf hl hown hb hown' hgrow
            clear hown' hgrow hown
            go_wp2
            go_roundw
            case rel => exact R
            case measure => simp [intOf];omega
       ·have cd : isDigI (s[i].toNat : Int) = false := by rw [← hbin];simpa using hd
        have h45 : bAt s i = 45 ∧ isDigI (bAt s (i + 1)) = true := by simpa [isNum,hd] using hnum
        have c45 : ((s[i].toNat : Int) == 45) = true := by rw [← hbin,h45.1];rfl
        have hi1 : i + 1 < s.size := by
         rcases Nat.lt_or_ge (i + 1) s.size with h | h
         ·exact h
         ·rw [bAt_out h] at h45;simp [isDigI] at h45
        have hb1 := bAt_in hi1
        have c1 : (48 : Int) ≤ (s[i + 1].toNat : Int) := by have := h45.2;rw [hb1] at this;simp [isDigI] at this;omega
        have c2 : (s[i + 1].toNat : Int) ≤ 57 := by have := h45.2;rw [hb1] at this;simp [isDigI] at this;omega
        have hi1' : (i : Int) + 1 < s.size := by omega
        clear hlex h10 hbl h37 hbin hd hnum hle hend h45 hb1
        go_wp2_with (first | (go_at_call 90;refine (ref_digit _ _).mono ?_;rintro e w' ⟨rfl,hww⟩;subst w') | (go_at_call 91;refine (ref_small _ _).mono ?_;rintro e w' ⟨rfl,hww⟩;subst w'))
        go_loop [8] (fun vk => ∃ k : Nat,k ≤ s.size ∧ vk = .int .i64 k ∧ Hid (runTo isDigI s k = runTo isDigI s (i + 1))) (fun vk => s.size - (intOf vk).toNat)
        case atStart => exact ⟨i + 1,by omega,by go_num,rfl⟩
        case round =>
         obtain ⟨k,hk,rfl,hrun⟩ := hrel
         by_cases hkl : k < s.size
         ·have hbk := bAt_in hkl
          by_cases h48 : 48 ≤ bAt s k
          ·by_cases h57 : bAt s k ≤ 57
           ·have ck : (48 : Int) ≤ (s[k].toNat : Int) := by omega
            have ck' : (s[k].toNat : Int) ≤ 57 := by omega
            have hr2 : Hid (runTo isDigI s (k + 1) = runTo isDigI s (i + 1)) := by rw [← hrun.out];exact (runTo_yes _ _ _ hkl (by simp [isDigI];omega)).symm
            clear hbk h48 h57 hrun
            go_wp2
            go_round
            case rel => exact ⟨k + 1,by omega,by go_num,hr2⟩
            case measure => simp [intOf];omega
           ·have ck : (48 : Int) ≤ (s[k].toNat : Int) := by omega
            have ck' : (57 : Int) < (s[k].toNat : Int) := by omega
            have he : Hid (k = runTo isDigI s (i + 1)) := by rw [← hrun.out];exact (runTo_no _ _ _ (by simp [isDigI];omega)).symm
            clear hbk h48 h57 hrun
            as_aux_lemma =>
             by_cases hlong : 10 < k - i
             ·have hl : Hid (lex s = (line,[],line)) := by
               rw [← HL.out];exact lexF_bad hlt HN.out.1 HN.out.2.1 HN.out.2.2 (by rw [HT.out,← he.out,if_pos hlong])
              have clong : (10 : Int) < (k : Int) - (i : Int) := by omega
              clear hlong
              go_wp2
              go_ret2
              rw [hl.out]
              exact ⟨_,rfl,World.ownsRow_nil _ _ _ _,hb⟩
             ·have hik : i < k := by have := HG.out;have := he.out;omega
              have ht : tokAt s i = (k,105) := by rw [HT.out,← he.out,if_neg hlong]
              have hl : Hid (lexF s f k line (acc ++ [⟨s.extract i k,105,line⟩]) = lex s) := by
               rw [← HL.out,lexF_tok hlt HN.out.1 HN.out.2.1 HN.out.2.2 (by rw [ht];show k ≠ 0;omega),ht];rfl
              have clong : (k : Int) - (i : Int) ≤ 10 := by omega
              clear hlong ht
              go_wp2_with (at_builtin;refine wpList_append_own _ rfl _ _ 107 rfl w.heap.size 170 i0 (.agg #[.string .empty,.int .u8 0,.int .i64 0]) 3 32 Tryz.underlying107 hi hz0 hz1 hz2 rfl (by decide) _ _ _ rfl (hown.alloc _) ⟨wr.heap.size,0,none⟩ 1 1 [.string (s.extract i k),.int .u8 105,.int .i64 line] rfl rfl (tok_news _ _ _ _ _) (tok_one _ _ _) ?c3 ?c4 ?c5 ?_)
              case c3 => unfold maxLen;omega
              case c4 => omega
              case c5 => have := hb.size;simp;omega
              intro v' w1 hown' hgrow _
              have R := tok_step hik hk hline hacc hf hl hown hb hown' hgrow
              clear hown' hgrow hown
              go_wp2
              go_roundw
              case rel => exact R
              case measure => simp [intOf];omega
          ·have ck : (s[k].toNat : Int) < 48 := by omega
           have he : Hid (k = runTo isDigI s (i + 1)) := by rw [← hrun.out];exact (runTo_no _ _ _ (by simp [isDigI];omega)).symm
           clear hbk h48 hrun
           as_aux_lemma =>
            by_cases hlong : 10 < k - i
            ·have hl : Hid (lex s = (line,[],line)) := by
              rw [← HL.out];exact lexF_bad hlt HN.out.1 HN.out.2.1 HN.out.2.2 (by rw [HT.out,← he.out,if_pos hlong])
             have clong : (10 : Int) < (k : Int) - (i : Int) := by omega
             clear hlong
             go_wp2
             go_ret2
             rw [hl.out]
             exact ⟨_,rfl,World.ownsRow_nil _ _ _ _,hb⟩
            ·have hik : i < k := by have := HG.out;have := he.out;omega
             have ht : tokAt s i = (k,105) := by rw [HT.out,← he.out,if_neg hlong]
             have hl : Hid (lexF s f k line (acc ++ [⟨s.extract i k,105,line⟩]) = lex s) := by
              rw [← HL.out,lexF_tok hlt HN.out.1 HN.out.2.1 HN.out.2.2 (by rw [ht];show k ≠ 0;omega),ht];rfl
             have clong : (k : Int) - (i : Int) ≤ 10 := by omega
             clear hlong ht
             go_wp2_with (at_builtin;refine wpList_append_own _ rfl _ _ 107 rfl w.heap.size 170 i0 (.agg #[.string .empty,.int .u8 0,.int .i64 0]) 3 32 Tryz.underlying107 hi hz0 hz1 hz2 rfl (by decide) _ _ _ rfl (hown.alloc _) ⟨wr.heap.size,0,none⟩ 1 1 [.string (s.extract i k),.int .u8 105,.int .i64 line] rfl rfl (tok_news _ _ _ _ _) (tok_one _ _ _) ?c3 ?c4 ?c5 ?_)
             case c3 => unfold maxLen;omega
             case c4 => omega
             case c5 => have := hb.size;simp;omega
             intro v' w1 hown' hgrow _
             have R := tok_step hik hk hline hacc hf hl hown hb hown' hgrow
             clear hown' hgrow hown
             go_wp2
             go_roundw
             case rel => exact R
             case measure => simp [intOf];omega
         ·have he : Hid (k = runTo isDigI s (i + 1)) := by rw [← hrun.out];exact (runTo_end _ _ _ (by omega)).symm
          have hks : (s.size : Int) ≤ (k : Int) := by omega
          clear hkl hrun
          as_aux_lemma =>
           by_cases hlong : 10 < k - i
           ·have hl : Hid (lex s = (line,[],line)) := by
             rw [← HL.out];exact lexF_bad hlt HN.out.1 HN.out.2.1 HN.out.2.2 (by rw [HT.out,← he.out,if_pos hlong])
            have clong : (10 : Int) < (k : Int) - (i : Int) := by omega
            clear hlong
            go_wp2
            go_ret2
            rw [hl.out]
            exact ⟨_,rfl,World.ownsRow_nil _ _ _ _,hb⟩
           ·have hik : i < k := by have := HG.out;have := he.out;omega
            have ht : tokAt s i = (k,105) := by rw [HT.out,← he.out,if_neg hlong]
            have hl : Hid (lexF s f k line (acc ++ [⟨s.extract i k,105,line⟩]) = lex s) := by
             rw [← HL.out,lexF_tok hlt HN.out.1 HN.out.2.1 HN.out.2.2 (by rw [ht];show k ≠ 0;omega),ht];rfl
            have clong : (k : Int) - (i : Int) ≤ 10 := by omega
            clear hlong ht
            go_wp2_with (at_builtin;refine wpList_append_own _ rfl _ _ 107 rfl w.heap.size 170 i0 (.agg #[.string .empty,.int .u8 0,.int .i64 0]) 3 32 Tryz.underlying107 hi hz0 hz1 hz2 rfl (by decide) _ _ _ rfl (hown.alloc _) ⟨wr.heap.size,0,none⟩ 1 1 [.string (s.extract i k),.int .u8 105,.int .i64 line] rfl rfl (tok_news _ _ _ _ _) (tok_one _ _ _) ?c3 ?c4 ?c5 ?_)
            case c3 => unfold maxLen;omega
            case c4 => omega
            case c5 => have := hb.size;simp;omega
            intro v' w1 hown' hgrow _
            have R := tok_step hik hk hline hacc hf hl hown hb hown' hgrow
            clear hown' hgrow hown
            go_wp2
            go_roundw
            case rel => exact R
            case measure => simp [intOf];omega
      ·have hnum' : isNum s i = false := by simpa using hnum
       have HN : Hid (¬ bAt s i = 10 ∧ ¬ (bAt s i = 32 ∨ bAt s i = 9) ∧ ¬ bAt s i = 37) := ⟨h10,hbl,h37⟩
       have HL := hlex
       have hnd : isDigI (bAt s i) = false := by
        cases h : isDigI (bAt s i) with
        | false => rfl
        | true => simp [isNum,h] at hnum'
       have cd : isDigI (s[i].toNat : Int) = false := by rw [← hbin];exact hnd
       by_cases hlet : isLetI (bAt s i) = true
       ·have hle := runTo_le isAlnI s (i + 1)
        have hend := runTo_size isAlnI s (i + 1) (by omega)
        have HG : Hid (i + 1 ≤ runTo isAlnI s (i + 1) ∧ runTo isAlnI s (i + 1) ≤ s.size) := ⟨hle,hend⟩
        have HT : Hid (tokAt s i = if 8 < runTo isAlnI s (i + 1) - i then (0,110) else (runTo isAlnI s (i + 1),if isKw (s.extract i (runTo isAlnI s (i + 1))) then 107 else 110)) := by
         simp only [Hid,tokAt,hnum',hlet,if_true,Bool.false_eq_true,if_false]
        have cl : isLetI (s[i].toNat : Int) = true := by rw [← hbin];exact hlet
        have c45 : ((s[i].toNat : Int) == 45) = false := by rw [← hbin];simp [isLetI] at hlet;simp;omega
        clear hlex h10 hbl h37 hbin hnum hnum' hnd hlet hle hend
        go_wp2_with (first | (go_at_call 90;refine (ref_digit _ _).mono ?_;rintro e w' ⟨rfl,hww⟩;subst w') | (go_at_call 91;refine (ref_small _ _).mono ?_;rintro e w' ⟨rfl,hww⟩;subst w'))
        go_loop [8] (fun vk => ∃ k : Nat,i + 1 ≤ k ∧ k ≤ s.size ∧ vk = .int .i64 k ∧ Hid (runTo isAlnI s k = runTo isAlnI s (i + 1))) (fun vk => s.size - (intOf vk).toNat)
        case atStart => exact ⟨i + 1,by omega,by omega,by go_num,rfl⟩
        case round =>
         obtain ⟨k,hki,hk,rfl,hrun⟩ := hrel
         by_cases hkl : k < s.size
         ·have hbk := bAt_in hkl
          by_cases h97 : 97 ≤ bAt s k
          ·have ck : (97 : Int) ≤ (s[k].toNat : Int) := by omega
           by_cases h122 : bAt s k ≤ 122
           ·have ck' : (s[k].toNat : Int) ≤ 122 := by omega
            have hr2 : Hid (runTo isAlnI s (k + 1) = runTo isAlnI s (i + 1)) := by rw [← hrun.out];exact (runTo_yes _ _ _ hkl (by simp [isAlnI,isLetI,isDigI];omega)).symm
            clear hbk h97 h122 hrun
            go_wp2
            go_round
            case rel => exact ⟨k + 1,by omega,by omega,by go_num,hr2⟩
            case measure => simp [intOf];omega
           ·have ck' : (122 : Int) < (s[k].toNat : Int) := by omega
            have he : Hid (k = runTo isAlnI s (i + 1)) := by rw [← hrun.out];exact (runTo_no _ _ _ (by simp [isAlnI,isLetI,isDigI];omega)).symm
            clear hbk h97 h122 hrun
            as_aux_lemma =>
             by_cases hkw : isKw (s.extract i k) = true
             ·by_cases hlong : 8 < k - i
              ·have hl : Hid (lex s = (line,[],line)) := by
                rw [← HL.out];exact lexF_bad hlt HN.out.1 HN.out.2.1 HN.out.2.2 (by rw [HT.out,← he.out,if_pos hlong])
               have clong : (8 : Int) < (k : Int) - (i : Int) := by omega
               have hik : i ≤ k := by omega
               clear hlong
               go_wp2_with (go_at_call 92;refine (ref_keyword _ _).mono ?_;rintro e w' ⟨rfl,hww⟩;subst w')
               go_ret2
               rw [hl.out]
               exact ⟨_,rfl,World.ownsRow_nil _ _ _ _,hb⟩
              ·have hik : i < k := by have := HG.out;have := he.out;omega
               have ht : tokAt s i = (k,107) := by rw [HT.out,← he.out,if_neg hlong];simp [*]
               have hl : Hid (lexF s f k line (acc ++ [⟨s.extract i k,107,line⟩]) = lex s) := by
                rw [← HL.out,lexF_tok hlt HN.out.1 HN.out.2.1 HN.out.2.2 (by rw [ht];show k ≠ 0;omega),ht];rfl
               have clong : (k : Int) - (i : Int) ≤ 8 := by omega
               clear hlong ht
               go_wp2_with (first | (go_at_call 92;refine (ref_keyword _ _).mono ?_;rintro e w' ⟨rfl,hww⟩;subst w') | (at_builtin;refine wpList_append_own _ rfl _ _ 107 rfl w.heap.size 170 i0 (.agg #[.string .empty,.int .u8 0,.int .i64 0]) 3 32 Tryz.underlying107 hi hz0 hz1 hz2 rfl (by decide) _ _ _ rfl (hown.alloc _) ⟨wr.heap.size,0,none⟩ 1 1 [.string (s.extract i k),.int .u8 107,.int .i64 line] rfl rfl (tok_news _ _ _ _ _) (tok_one _ _ _) ?c3 ?c4 ?c5 ?_))
               case c3 => unfold maxLen;omega
               case c4 => omega
               case c5 => have := hb.size;simp;omega
               intro v' w1 hown' hgrow _
               have R := tok_step hik hk hline hacc hf hl hown hb hown' hgrow
               clear hown' hgrow hown
               go_wp2
               go_roundw
               case rel => exact R
               case measure => simp [intOf];omega
             ·have hkw' : isKw (s.extract i k) = false := by simpa using hkw
              clear hkw
              by_cases hlong : 8 < k - i
              ·have hl : Hid (lex s = (line,[],line)) := by
                rw [← HL.out];exact lexF_bad hlt HN.out.1 HN.out.2.1 HN.out.2.2 (by rw [HT.out,← he.out,if_pos hlong])
               have clong : (8 : Int) < (k : Int) - (i : Int) := by omega
               have hik : i ≤ k := by omega
               clear hlong
               go_wp2_with (go_at_call 92;refine (ref_keyword _ _).mono ?_;rintro e w' ⟨rfl,hww⟩;subst w')
               go_ret2
               rw [hl.out]
               exact ⟨_,rfl,World.ownsRow_nil _ _ _ _,hb⟩
              ·have hik : i < k := by have := HG.out;have := he.out;omega
               have ht : tokAt s i = (k,110) := by rw [HT.out,← he.out,if_neg hlong];simp [*]
               have hl : Hid (lexF s f k line (acc ++ [⟨s.extract i k,110,line⟩]) = lex s) := by
                rw [← HL.out,lexF_tok hlt HN.out.1 HN.out.2.1 HN.out.2.2 (by rw [ht];show k ≠ 0;omega),ht];rfl
               have clong : (k : Int) - (i : Int) ≤ 8 := by omega
               clear hlong ht
               go_wp2_with (first | (go_at_call 92;refine (ref_keyword _ _).mono ?_;rintro e w' ⟨rfl,hww⟩;subst w') | (at_builtin;refine wpList_append_own _ rfl _ _ 107 rfl w.heap.size 170 i0 (.agg #[.string .empty,.int .u8 0,.int .i64 0]) 3 32 Tryz.underlying107 hi hz0 hz1 hz2 rfl (by decide) _ _ _ rfl (hown.alloc _) ⟨wr.heap.size,0,none⟩ 1 1 [.string (s.extract i k),.int .u8 110,.int .i64 line] rfl rfl (tok_news _ _ _ _ _) (tok_one _ _ _) ?c3 ?c4 ?c5 ?_))
               case c3 => unfold maxLen;omega
               case c4 => omega
               case c5 => have := hb.size;simp;omega
               intro v' w1 hown' hgrow _
               have R := tok_step hik hk hline hacc hf hl hown hb hown' hgrow
               clear hown' hgrow hown
               go_wp2
               go_roundw
               case rel => exact R
               case measure => simp [intOf];omega
          ·have ck : (s[k].toNat : Int) < 97 := by omega
           by_cases h48 : 48 ≤ bAt s k
           ·have ck1 : (48 : Int) ≤ (s[k].toNat : Int) := by omega
            by_cases h57 : bAt s k ≤ 57
            ·have ck' : (s[k].toNat : Int) ≤ 57 := by omega
             have hr2 : Hid (runTo isAlnI s (k + 1) = runTo isAlnI s (i + 1)) := by rw [← hrun.out];exact (runTo_yes _ _ _ hkl (by simp [isAlnI,isLetI,isDigI];omega)).symm
             clear hbk h97 h48 h57 hrun
             go_wp2
             go_round
             case rel => exact ⟨k + 1,by omega,by omega,by go_num,hr2⟩
             case measure => simp [intOf];omega
            ·have ck' : (57 : Int) < (s[k].toNat : Int) := by omega
             have he : Hid (k = runTo isAlnI s (i + 1)) := by rw [← hrun.out];exact (runTo_no _ _ _ (by simp [isAlnI,isLetI,isDigI];omega)).symm
             clear hbk h97 h48 h57 hrun
             as_aux_lemma =>
              by_cases hkw : isKw (s.extract i k) = true
              ·by_cases hlong : 8 < k - i
               ·have hl : Hid (lex s = (line,[],line)) := by
                 rw [← HL.out];exact lexF_bad hlt HN.out.1 HN.out.2.1 HN.out.2.2 (by rw [HT.out,← he.out,if_pos hlong])
                have clong : (8 : Int) < (k : Int) - (i : Int) := by omega
                have hik : i ≤ k := by omega
                clear hlong
                go_wp2_with (go_at_call 92;refine (ref_keyword _ _).mono ?_;rintro e w' ⟨rfl,hww⟩;subst w')
                go_ret2
                rw [hl.out]
                exact ⟨_,rfl,World.ownsRow_nil _ _ _ _,hb⟩
               ·have hik : i < k := by have := HG.out;have := he.out;omega
                have ht : tokAt s i = (k,107) := by rw [HT.out,← he.out,if_neg hlong];simp [*]
                have hl : Hid (lexF s f k line (acc ++ [⟨s.extract i k,107,line⟩]) = lex s) := by
                 rw [← HL.out,lexF_tok hlt HN.out.1 HN.out.2.1 HN.out.2.2 (by rw [ht];show k ≠ 0;omega),ht];rfl
                have clong : (k : Int) - (i : Int) ≤ 8 := by omega
                clear hlong ht
                go_wp2_with (first | (go_at_call 92;refine (ref_keyword _ _).mono ?_;rintro e w' ⟨rfl,hww⟩;subst w') | (at_builtin;refine wpList_append_own _ rfl _ _ 107 rfl w.heap.size 170 i0 (.agg #[.string .empty,.int .u8 0,.int .i64 0]) 3 32 Tryz.underlying107 hi hz0 hz1 hz2 rfl (by decide) _ _ _ rfl (hown.alloc _) ⟨wr.heap.size,0,none⟩ 1 1 [.string (s.extract i k),.int .u8 107,.int .i64 line] rfl rfl (tok_news _ _ _ _ _) (tok_one _ _ _) ?c3 ?c4 ?c5 ?_))
                case c3 => unfold maxLen;omega
                case c4 => omega
                case c5 => have := hb.size;simp;omega
                intro v' w1 hown' hgrow _
                have R := tok_step hik hk hline hacc hf hl hown hb hown' hgrow
                clear hown' hgrow hown
                go_wp2
                go_roundw
                case rel => exact R
                case measure => simp [intOf];omega
              ·have hkw' : isKw (s.extract i k) = false := by simpa using hkw
               clear hkw
               by_cases hlong : 8 < k - i
               ·have hl : Hid (lex s = (line,[],line)) := by
                 rw [← HL.out];exact lexF_bad hlt HN.out.1 HN.out.2.1 HN.out.2.2 (by rw [HT.out,← he.out,if_pos hlong])
                have clong : (8 : Int) < (k : Int) - (i : Int) := by omega
                have hik : i ≤ k := by omega
                clear hlong
                go_wp2_with (go_at_call 92;refine (ref_keyword _ _).mono ?_;rintro e w' ⟨rfl,hww⟩;subst w')
                go_ret2
                rw [hl.out]
                exact ⟨_,rfl,World.ownsRow_nil _ _ _ _,hb⟩
               ·have hik : i < k := by have := HG.out;have := he.out;omega
                have ht : tokAt s i = (k,110) := by rw [HT.out,← he.out,if_neg hlong];simp [*]
                have hl : Hid (lexF s f k line (acc ++ [⟨s.extract i k,110,line⟩]) = lex s) := by
                 rw [← HL.out,lexF_tok hlt HN.out.1 HN.out.2.1 HN.out.2.2 (by rw [ht];show k ≠ 0;omega),ht];rfl
                have clong : (k : Int) - (i : Int) ≤ 8 := by omega
                clear hlong ht
                go_wp2_with (first | (go_at_call 92;refine (ref_keyword _ _).mono ?_;rintro e w' ⟨rfl,hww⟩;subst w') | (at_builtin;refine wpList_append_own _ rfl _ _ 107 rfl w.heap.size 170 i0 (.agg #[.string .empty,.int .u8 0,.int .i64 0]) 3 32 Tryz.underlying107 hi hz0 hz1 hz2 rfl (by decide) _ _ _ rfl (hown.alloc _) ⟨wr.heap.size,0,none⟩ 1 1 [.string (s.extract i k),.int .u8 110,.int .i64 line] rfl rfl (tok_news _ _ _ _ _) (tok_one _ _ _) ?c3 ?c4 ?c5 ?_))
                case c3 => unfold maxLen;omega
                case c4 => omega
                case c5 => have := hb.size;simp;omega
                intro v' w1 hown' hgrow _
                have R := tok_step hik hk hline hacc hf hl hown hb hown' hgrow
                clear hown' hgrow hown
                go_wp2
                go_roundw
                case rel => exact R
                case measure => simp [intOf];omega
           ·have ck1 : (s[k].toNat : Int) < 48 := by omega
            have he : Hid (k = runTo isAlnI s (i + 1)) := by rw [← hrun.out];exact (runTo_no _ _ _ (by simp [isAlnI,isLetI,isDigI];omega)).symm
            clear hbk h97 h48 hrun
            as_aux_lemma =>
             by_cases hkw : isKw (s.extract i k) = true
             ·by_cases hlong : 8 < k - i
              ·have hl : Hid (lex s = (line,[],line)) := by
                rw [← HL.out];exact lexF_bad hlt HN.out.1 HN.out.2.1 HN.out.2.2 (by rw [HT.out,← he.out,if_pos hlong])
               have clong : (8 : Int) < (k : Int) - (i : Int) := by omega
               have hik : i ≤ k := by omega
               clear hlong
               go_wp2_with (go_at_call 92;refine (ref_keyword _ _).mono ?_;rintro e w' ⟨rfl,hww⟩;subst w')
               go_ret2
               rw [hl.out]
               exact ⟨_,rfl,World.ownsRow_nil _ _ _ _,hb⟩
              ·have hik : i < k := by have := HG.out;have := he.out;omega
               have ht : tokAt s i = (k,107) := by rw [HT.out,← he.out,if_neg hlong];simp [*]
               have hl : Hid (lexF s f k line (acc ++ [⟨s.extract i k,107,line⟩]) = lex s) := by
                rw [← HL.out,lexF_tok hlt HN.out.1 HN.out.2.1 HN.out.2.2 (by rw [ht];show k ≠ 0;omega),ht];rfl
               have clong : (k : Int) - (i : Int) ≤ 8 := by omega
               clear hlong ht
               go_wp2_with (first | (go_at_call 92;refine (ref_keyword _ _).mono ?_;rintro e w' ⟨rfl,hww⟩;subst w') | (at_builtin;refine wpList_append_own _ rfl _ _ 107 rfl w.heap.size 170 i0 (.agg #[.string .empty,.int .u8 0,.int .i64 0]) 3 32 Tryz.underlying107 hi hz0 hz1 hz2 rfl (by decide) _ _ _ rfl (hown.alloc _) ⟨wr.heap.size,0,none⟩ 1 1 [.string (s.extract i k),.int .u8 107,.int .i64 line] rfl rfl (tok_news _ _ _ _ _) (tok_one _ _ _) ?c3 ?c4 ?c5 ?_))
               case c3 => unfold maxLen;omega
               case c4 => omega
               case c5 => have := hb.size;simp;omega
               intro v' w1 hown' hgrow _
               have R := tok_step hik hk hline hacc hf hl hown hb hown' hgrow
               clear hown' hgrow hown
               go_wp2
               go_roundw
               case rel => exact R
               case measure => simp [intOf];omega
             ·have hkw' : isKw (s.extract i k) = false := by simpa using hkw
              clear hkw
              by_cases hlong : 8 < k - i
              ·have hl : Hid (lex s = (line,[],line)) := by
                rw [← HL.out];exact lexF_bad hlt HN.out.1 HN.out.2.1 HN.out.2.2 (by rw [HT.out,← he.out,if_pos hlong])
               have clong : (8 : Int) < (k : Int) - (i : Int) := by omega
               have hik : i ≤ k := by omega
               clear hlong
               go_wp2_with (go_at_call 92;refine (ref_keyword _ _).mono ?_;rintro e w' ⟨rfl,hww⟩;subst w')
               go_ret2
               rw [hl.out]
               exact ⟨_,rfl,World.ownsRow_nil _ _ _ _,hb⟩
              ·have hik : i < k := by have := HG.out;have := he.out;omega
               have ht : tokAt s i = (k,110) := by rw [HT.out,← he.out,if_neg hlong];simp [*]
               have hl : Hid (lexF s f k line (acc ++ [⟨s.extract i k,110,line⟩]) = lex s) := by
                rw [← HL.out,lexF_tok hlt HN.out.1 HN.out.2.1 HN.out.2.2 (by rw [ht];show k ≠ 0;omega),ht];rfl
               have clong : (k : Int) - (i : Int) ≤ 8 := by omega
               clear hlong ht
               go_wp2_with (first | (go_at_call 92;refine (ref_keyword _ _).mono ?_;rintro e w' ⟨rfl,hww⟩;subst w') | (at_builtin;refine wpList_append_own _ rfl _ _ 107 rfl w.heap.size 170 i0 (.agg #[.string .empty,.int .u8 0,.int .i64 0]) 3 32 Tryz.underlying107 hi hz0 hz1 hz2 rfl (by decide) _ _ _ rfl (hown.alloc _) ⟨wr.heap.size,0,none⟩ 1 1 [.string (s.extract i k),.int .u8 110,.int .i64 line] rfl rfl (tok_news _ _ _ _ _) (tok_one _ _ _) ?c3 ?c4 ?c5 ?_))
               case c3 => unfold maxLen;omega
               case c4 => omega
               case c5 => have := hb.size;simp;omega
               intro v' w1 hown' hgrow _
               have R := tok_step hik hk hline hacc hf hl hown hb hown' hgrow
               clear hown' hgrow hown
               go_wp2
               go_roundw
               case rel => exact R
               case measure => simp [intOf];omega
         ·have he : Hid (k = runTo isAlnI s (i + 1)) := by rw [← hrun.out];exact (runTo_end _ _ _ (by omega)).symm
          have hks : (s.size : Int) ≤ (k : Int) := by omega
          clear hkl hrun
          as_aux_lemma =>
           by_cases hkw : isKw (s.extract i k) = true
           ·by_cases hlong : 8 < k - i
            ·have hl : Hid (lex s = (line,[],line)) := by
              rw [← HL.out];exact lexF_bad hlt HN.out.1 HN.out.2.1 HN.out.2.2 (by rw [HT.out,← he.out,if_pos hlong])
             have clong : (8 : Int) < (k : Int) - (i : Int) := by omega
             have hik : i ≤ k := by omega
             clear hlong
             go_wp2_with (go_at_call 92;refine (ref_keyword _ _).mono ?_;rintro e w' ⟨rfl,hww⟩;subst w')
             go_ret2
             rw [hl.out]
             exact ⟨_,rfl,World.ownsRow_nil _ _ _ _,hb⟩
            ·have hik : i < k := by have := HG.out;have := he.out;omega
             have ht : tokAt s i = (k,107) := by rw [HT.out,← he.out,if_neg hlong];simp [*]
             have hl : Hid (lexF s f k line (acc ++ [⟨s.extract i k,107,line⟩]) = lex s) := by
              rw [← HL.out,lexF_tok hlt HN.out.1 HN.out.2.1 HN.out.2.2 (by rw [ht];show k ≠ 0;omega),ht];rfl
             have clong : (k : Int) - (i : Int) ≤ 8 := by omega
             clear hlong ht
             go_wp2_with (first | (go_at_call 92;refine (ref_keyword _ _).mono ?_;rintro e w' ⟨rfl,hww⟩;subst w') | (at_builtin;refine wpList_append_own _ rfl _ _ 107 rfl w.heap.size 170 i0 (.agg #[.string .empty,.int .u8 0,.int .i64 0]) 3 32 Tryz.underlying107 hi hz0 hz1 hz2 rfl (by decide) _ _ _ rfl (hown.alloc _) ⟨wr.heap.size,0,none⟩ 1 1 [.string (s.extract i k),.int .u8 107,.int .i64 line] rfl rfl (tok_news _ _ _ _ _) (tok_one _ _ _) ?c3 ?c4 ?c5 ?_))
             case c3 => unfold maxLen;omega
             case c4 => omega
             case c5 => have := hb.size;simp;omega
             intro v' w1 hown' hgrow _
             have R := tok_step hik hk hline hacc hf hl hown hb hown' hgrow
             clear hown' hgrow hown
             go_wp2
             go_roundw
             case rel => exact R
             case measure => simp [intOf];omega
           ·have hkw' : isKw (s.extract i k) = false := by simpa using hkw
            clear hkw
            by_cases hlong : 8 < k - i
            ·have hl : Hid (lex s = (line,[],line)) := by
              rw [← HL.out];exact lexF_bad hlt HN.out.1 HN.out.2.1 HN.out.2.2 (by rw [HT.out,← he.out,if_pos hlong])
             have clong : (8 : Int) < (k : Int) - (i : Int) := by omega
             have hik : i ≤ k := by omega
             clear hlong
             go_wp2_with (go_at_call 92;refine (ref_keyword _ _).mono ?_;rintro e w' ⟨rfl,hww⟩;subst w')
             go_ret2
             rw [hl.out]
             exact ⟨_,rfl,World.ownsRow_nil _ _ _ _,hb⟩
            ·have hik : i < k := by have := HG.out;have := he.out;omega
             have ht : tokAt s i = (k,110) := by rw [HT.out,← he.out,if_neg hlong];simp [*]
             have hl : Hid (lexF s f k line (acc ++ [⟨s.extract i k,110,line⟩]) = lex s) := by
              rw [← HL.out,lexF_tok hlt HN.out.1 HN.out.2.1 HN.out.2.2 (by rw [ht];show k ≠ 0;omega),ht];rfl
             have clong : (k : Int) - (i : Int) ≤ 8 := by omega
             clear hlong ht
             go_wp2_with (first | (go_at_call 92;refine (ref_keyword _ _).mono ?_;rintro e w' ⟨rfl,hww⟩;subst w') | (at_builtin;refine wpList_append_own _ rfl _ _ 107 rfl w.heap.size 170 i0 (.agg #[.string .empty,.int .u8 0,.int .i64 0]) 3 32 Tryz.underlying107 hi hz0 hz1 hz2 rfl (by decide) _ _ _ rfl (hown.alloc _) ⟨wr.heap.size,0,none⟩ 1 1 [.string (s.extract i k),.int .u8 110,.int .i64 line] rfl rfl (tok_news _ _ _ _ _) (tok_one _ _ _) ?c3 ?c4 ?c5 ?_))
             case c3 => unfold maxLen;omega
             case c4 => omega
             case c5 => have := hb.size;simp;omega
             intro v' w1 hown' hgrow _
             have R := tok_step hik hk hline hacc hf hl hown hb hown' hgrow
             clear hown' hgrow hown
             go_wp2
             go_roundw
             case rel => exact R
             case measure => simp [intOf];omega
       ·have hlet' : isLetI (bAt s i) = false := by simpa using hlet
        have cl : isLetI (s[i].toNat : Int) = false := by rw [← hbin];exact hlet'
        have HT : Hid (tokAt s i = if signLen s i = 0 then (0,115) else (i + signLen s i,115)) := by
         simp only [Hid,tokAt,hnum',hlet',Bool.false_eq_true,if_false]
        have HS := sign_size s i hlt
        by_cases h45 : bAt s i = 45
        ·have c45 : ((s[i].toNat : Int) == 45) = true := by rw [← hbin,h45];rfl
         have hnx : isDigI (bAt s (i + 1)) = false := by simpa [isNum,h45,isDigI] using hnum'
         by_cases hi1 : i + 1 < s.size
         ·have hb1 := bAt_in hi1
          have hi1' : (i : Int) + 1 < s.size := by omega
          rw [hb1] at hnx
          by_cases hlo : (48 : Int) ≤ (s[i + 1].toNat : Int)
          ·have hhi : (57 : Int) < (s[i + 1].toNat : Int) := by simp [isDigI] at hnx;omega
           clear hlex h10 hbl h37 hbin hnum hnum' hnd hlet hlet' h45 hnx hb1
           as_aux_lemma =>
            by_cases hn : signLen s i = 0
            ·have hl : Hid (lex s = (line,[],line)) := by
              rw [← HL.out];exact lexF_bad hlt HN.out.1 HN.out.2.1 HN.out.2.2 (by rw [HT.out,if_pos hn])
             have cn : (((signLen s i : Nat) : Int) == 0) = true := by rw [hn];rfl
             clear hn
             go_wp2_with (first | (go_at_call 90;refine (ref_digit _ _).mono ?_;rintro e w' ⟨rfl,hww⟩;subst w') | (go_at_call 91;refine (ref_small _ _).mono ?_;rintro e w' ⟨rfl,hww⟩;subst w') | (go_at_call 93;refine (ref_sign _ _ _ hs hlt).mono ?_;rintro e w' ⟨rfl,hww⟩;subst w') | (at_builtin;fail))
             go_ret2
             rw [hl.out]
             exact ⟨_,rfl,World.ownsRow_nil _ _ _ _,hb⟩
            ·have cn : (((signLen s i : Nat) : Int) == 0) = false := by simpa using hn
             obtain ⟨k,hkd⟩ : ∃ k,k = i + signLen s i := ⟨_,rfl⟩
             have hik : i < k := by omega
             have hk : k ≤ s.size := by omega
             have ht : tokAt s i = (k,115) := by rw [HT.out,if_neg hn,hkd]
             have hl : Hid (lexF s f k line (acc ++ [⟨s.extract i k,115,line⟩]) = lex s) := by
              rw [← HL.out,lexF_tok hlt HN.out.1 HN.out.2.1 HN.out.2.2 (by rw [ht];show k ≠ 0;omega),ht];rfl
             have hkd' : (i : Int) + ((signLen s i : Nat) : Int) = (k : Int) := by omega
             clear hn ht hkd
             go_wp2_with (first | (go_at_call 90;refine (ref_digit _ _).mono ?_;rintro e w' ⟨rfl,hww⟩;subst w') | (go_at_call 91;refine (ref_small _ _).mono ?_;rintro e w' ⟨rfl,hww⟩;subst w') | (go_at_call 93;refine (ref_sign _ _ _ hs hlt).mono ?_;rintro e w' ⟨rfl,hww⟩;subst w') | (at_builtin;refine wpList_append_own _ rfl _ _ 107 rfl w.heap.size 170 i0 (.agg #[.string .empty,.int .u8 0,.int .i64 0]) 3 32 Tryz.underlying107 hi hz0 hz1 hz2 rfl (by decide) _ _ _ rfl (hown.alloc _) ⟨wr.heap.size,0,none⟩ 1 1 [.string (s.extract i k),.int .u8 115,.int .i64 line] rfl rfl (tok_news _ _ _ _ _) (tok_one _ _ _) ?c3 ?c4 ?c5 ?_))
             case c3 => unfold maxLen;omega
             case c4 => omega
             case c5 => have := hb.size;simp;omega
             intro v' w1 hown' hgrow _
             have R := tok_step hik hk hline hacc hf hl hown hb hown' hgrow
             clear hown' hgrow hown
             go_wp2
             go_roundw
             case rel => exact R
             case measure => simp [intOf];omega
          ·have hlo' : (s[i + 1].toNat : Int) < 48 := by omega
           clear hlex h10 hbl h37 hbin hnum hnum' hnd hlet hlet' h45 hnx hb1 hlo
           as_aux_lemma =>
            by_cases hn : signLen s i = 0
            ·have hl : Hid (lex s = (line,[],line)) := by
              rw [← HL.out];exact lexF_bad hlt HN.out.1 HN.out.2.1 HN.out.2.2 (by rw [HT.out,if_pos hn])
             have cn : (((signLen s i : Nat) : Int) == 0) = true := by rw [hn];rfl
             clear hn
             go_wp2_with (first | (go_at_call 90;refine (ref_digit _ _).mono ?_;rintro e w' ⟨rfl,hww⟩;subst w') | (go_at_call 91;refine (ref_small _ _).mono ?_;rintro e w' ⟨rfl,hww⟩;subst w') | (go_at_call 93;refine (ref_sign _ _ _ hs hlt).mono ?_;rintro e w' ⟨rfl,hww⟩;subst w') | (at_builtin;fail))
             go_ret2
             rw [hl.out]
             exact ⟨_,rfl,World.ownsRow_nil _ _ _ _,hb⟩
            ·have cn : (((signLen s i : Nat) : Int) == 0) = false := by simpa using hn
             obtain ⟨k,hkd⟩ : ∃ k,k = i + signLen s i := ⟨_,rfl⟩
             have hik : i < k := by omega
             have hk : k ≤ s.size := by omega
             have ht : tokAt s i = (k,115) := by rw [HT.out,if_neg hn,hkd]
             have hl : Hid (lexF s f k line (acc ++ [⟨s.extract i k,115,line⟩]) = lex s) := by
              rw [← HL.out,lexF_tok hlt HN.out.1 HN.out.2.1 HN.out.2.2 (by rw [ht];show k ≠ 0;omega),ht];rfl
             have hkd' : (i : Int) + ((signLen s i : Nat) : Int) = (k : Int) := by omega
             clear hn ht hkd
             go_wp2_with (first | (go_at_call 90;refine (ref_digit _ _).mono ?_;rintro e w' ⟨rfl,hww⟩;subst w') | (go_at_call 91;refine (ref_small _ _).mono ?_;rintro e w' ⟨rfl,hww⟩;subst w') | (go_at_call 93;refine (ref_sign _ _ _ hs hlt).mono ?_;rintro e w' ⟨rfl,hww⟩;subst w') | (at_builtin;refine wpList_append_own _ rfl _ _ 107 rfl w.heap.size 170 i0 (.agg #[.string .empty,.int .u8 0,.int .i64 0]) 3 32 Tryz.underlying107 hi hz0 hz1 hz2 rfl (by decide) _ _ _ rfl (hown.alloc _) ⟨wr.heap.size,0,none⟩ 1 1 [.string (s.extract i k),.int .u8 115,.int .i64 line] rfl rfl (tok_news _ _ _ _ _) (tok_one _ _ _) ?c3 ?c4 ?c5 ?_))
             case c3 => unfold maxLen;omega
             case c4 => omega
             case c5 => have := hb.size;simp;omega
             intro v' w1 hown' hgrow _
             have R := tok_step hik hk hline hacc hf hl hown hb hown' hgrow
             clear hown' hgrow hown
             go_wp2
             go_roundw
             case rel => exact R
             case measure => simp [intOf];omega
         ·have hi1' : (s.size : Int) ≤ (i : Int) + 1 := by omega
          clear hlex h10 hbl h37 hbin hnum hnum' hnd hlet hlet' h45 hnx hi1
          as_aux_lemma =>
           by_cases hn : signLen s i = 0
           ·have hl : Hid (lex s = (line,[],line)) := by
             rw [← HL.out];exact lexF_bad hlt HN.out.1 HN.out.2.1 HN.out.2.2 (by rw [HT.out,if_pos hn])
            have cn : (((signLen s i : Nat) : Int) == 0) = true := by rw [hn];rfl
            clear hn
            go_wp2_with (first | (go_at_call 90;refine (ref_digit _ _).mono ?_;rintro e w' ⟨rfl,hww⟩;subst w') | (go_at_call 91;refine (ref_small _ _).mono ?_;rintro e w' ⟨rfl,hww⟩;subst w') | (go_at_call 93;refine (ref_sign _ _ _ hs hlt).mono ?_;rintro e w' ⟨rfl,hww⟩;subst w') | (at_builtin;fail))
            go_ret2
            rw [hl.out]
            exact ⟨_,rfl,World.ownsRow_nil _ _ _ _,hb⟩
           ·have cn : (((signLen s i : Nat) : Int) == 0) = false := by simpa using hn
            obtain ⟨k,hkd⟩ : ∃ k,k = i + signLen s i := ⟨_,rfl⟩
            have hik : i < k := by omega
            have hk : k ≤ s.size := by omega
            have ht : tokAt s i = (k,115) := by rw [HT.out,if_neg hn,hkd]
            have hl : Hid (lexF s f k line (acc ++ [⟨s.extract i k,115,line⟩]) = lex s) := by
             rw [← HL.out,lexF_tok hlt HN.out.1 HN.out.2.1 HN.out.2.2 (by rw [ht];show k ≠ 0;omega),ht];rfl
            have hkd' : (i : Int) + ((signLen s i : Nat) : Int) = (k : Int) := by omega
            clear hn ht hkd
            go_wp2_with (first | (go_at_call 90;refine (ref_digit _ _).mono ?_;rintro e w' ⟨rfl,hww⟩;subst w') | (go_at_call 91;refine (ref_small _ _).mono ?_;rintro e w' ⟨rfl,hww⟩;subst w') | (go_at_call 93;refine (ref_sign _ _ _ hs hlt).mono ?_;rintro e w' ⟨rfl,hww⟩;subst w') | (at_builtin;refine wpList_append_own _ rfl _ _ 107 rfl w.heap.size 170 i0 (.agg #[.string .empty,.int .u8 0,.int .i64 0]) 3 32 Tryz.underlying107 hi hz0 hz1 hz2 rfl (by decide) _ _ _ rfl (hown.alloc _) ⟨wr.heap.size,0,none⟩ 1 1 [.string (s.extract i k),.int .u8 115,.int .i64 line] rfl rfl (tok_news _ _ _ _ _) (tok_one _ _ _) ?c3 ?c4 ?c5 ?_))
            case c3 => unfold maxLen;omega
            case c4 => omega
            case c5 => have := hb.size;simp;omega
            intro v' w1 hown' hgrow _
            have R := tok_step hik hk hline hacc hf hl hown hb hown' hgrow
            clear hown' hgrow hown
            go_wp2
            go_roundw
            case rel => exact R
            case measure => simp [intOf];omega
        ·have c45 : ((s[i].toNat : Int) == 45) = false := by rw [← hbin];simpa using h45
         clear hlex h10 hbl h37 hbin hnum hnum' hnd hlet hlet' h45
         as_aux_lemma =>
          by_cases hn : signLen s i = 0
          ·have hl : Hid (lex s = (line,[],line)) := by
            rw [← HL.out];exact lexF_bad hlt HN.out.1 HN.out.2.1 HN.out.2.2 (by rw [HT.out,if_pos hn])
           have cn : (((signLen s i : Nat) : Int) == 0) = true := by rw [hn];rfl
           clear hn
           go_wp2_with (first | (go_at_call 90;refine (ref_digit _ _).mono ?_;rintro e w' ⟨rfl,hww⟩;subst w') | (go_at_call 91;refine (ref_small _ _).mono ?_;rintro e w' ⟨rfl,hww⟩;subst w') | (go_at_call 93;refine (ref_sign _ _ _ hs hlt).mono ?_;rintro e w' ⟨rfl,hww⟩;subst w') | (at_builtin;fail))
           go_ret2
           rw [hl.out]
           exact ⟨_,rfl,World.ownsRow_nil _ _ _ _,hb⟩
          ·have cn : (((signLen s i : Nat) : Int) == 0) = false := by simpa using hn
           obtain ⟨k,hkd⟩ : ∃ k,k = i + signLen s i := ⟨_,rfl⟩
           have hik : i < k := by omega
           have hk : k ≤ s.size := by omega
           have ht : tokAt s i = (k,115) := by rw [HT.out,if_neg hn,hkd]
           have hl : Hid (lexF s f k line (acc ++ [⟨s.extract i k,115,line⟩]) = lex s) := by
            rw [← HL.out,lexF_tok hlt HN.out.1 HN.out.2.1 HN.out.2.2 (by rw [ht];show k ≠ 0;omega),ht];rfl
           have hkd' : (i : Int) + ((signLen s i : Nat) : Int) = (k : Int) := by omega
           clear hn ht hkd
           go_wp2_with (first | (go_at_call 90;refine (ref_digit _ _).mono ?_;rintro e w' ⟨rfl,hww⟩;subst w') | (go_at_call 91;refine (ref_small _ _).mono ?_;rintro e w' ⟨rfl,hww⟩;subst w') | (go_at_call 93;refine (ref_sign _ _ _ hs hlt).mono ?_;rintro e w' ⟨rfl,hww⟩;subst w') | (at_builtin;refine wpList_append_own _ rfl _ _ 107 rfl w.heap.size 170 i0 (.agg #[.string .empty,.int .u8 0,.int .i64 0]) 3 32 Tryz.underlying107 hi hz0 hz1 hz2 rfl (by decide) _ _ _ rfl (hown.alloc _) ⟨wr.heap.size,0,none⟩ 1 1 [.string (s.extract i k),.int .u8 115,.int .i64 line] rfl rfl (tok_news _ _ _ _ _) (tok_one _ _ _) ?c3 ?c4 ?c5 ?_))
           case c3 => unfold maxLen;omega
           case c4 => omega
           case c5 => have := hb.size;simp;omega
           intro v' w1 hown' hgrow _
           have R := tok_step hik hk hline hacc hf hl hown hb hown' hgrow
           clear hown' hgrow hown
           go_wp2
           go_roundw
           case rel => exact R
           case measure => simp [intOf];omega
  ·obtain rfl : i = s.size := by omega
   have hl : Hid (lex s = (0,acc,line)) := by rw [← hlex.out];exact lexF_done _ _ _ _ _ (Nat.le_refl _)
   clear hlex
   go_wp2
   go_ret2
   rw [hl.out]
   exact ⟨_,rfl,hown,hb⟩
end
end Go.Proofs.YthpcbbnabnlanaaGreatDoor
