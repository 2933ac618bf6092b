/-GRg7-/
import Derived.Test.YtjaebndajhppgaaGreatDoorMlHd1
import Derived.Test.YtjaebndajhppgaaGreatDoorMlGRg6
import Derived.Test.YtjaebndajhppgaaGreatDoorMlGRg5
import Derived.Test.YtjaebndajhppgaaGreatDoorMlGB
import Derived.Deep.SlicePairs
set_option linter.unusedVariables false
set_option maxRecDepth 100000
set_option linter.unusedSimpArgs false
namespace Go.Proofs.YtjaebndajhppgaaGreatDoor
open Go.Proofs.Tryz
open Go Go.ChangeShapes Go.WideShapes Go.ChangeAt Go.RowKit
theorem ac6 (a b c d e f:Int) (w:World):(Op.equalIn 10000 77 (.agg #[.int .i64 a,.int .i64 b,.int .i64 c]) (.agg #[.int .i64 d,.int .i64 e,.int .i64 f])).run prog w=.ok (decide (((a,b,c):Rg.T)=(d,e,f))) w:=by have u3:=underlying3;have a3:=isAgg3;have z3:=sizeOf3;rw [show (10000:Nat)=9999+1 from rfl,Op.equalIn];simp only [Sem.run_bind,run_underlying underlying77,Result.andThen_ok];simp only [Std.Legacy.Range.forIn_eq_forIn_range',Std.Legacy.Range.size,Nat.sub_zero,Nat.add_sub_cancel,Nat.div_one,List.range'_succ,List.range'_zero,List.forIn_cons,List.forIn_nil];go_simp;by_cases h1:a=d <;> by_cases h2:b=e <;> by_cases h3:c=f <;> simp [h1,h2,h3]
theorem ac7 (a b c d e f:Int) (w:World):(binOp .neq 77 (.agg #[.int .i64 a,.int .i64 b,.int .i64 c]) (.agg #[.int .i64 d,.int .i64 e,.int .i64 f])).run prog w=.ok (.bool (!decide (((a,b,c):Rg.T)=(d,e,f)))) w:=by rw [run_neq_struct,ac6];rfl
theorem ac8 (v1 v2:Value) (k l:List Rg.T) (w:World) (h1:gG w v1 k) (h2:gG w v2 l) (hk:k.length≤140737488351232) (hl:l.length≤140737488351232) :
  Calls prog 38 #[v1,v2] w fun e w'=>e=.returned (.bool (decide (k=l)))∧Below w.heap.size w w':=by
 obtain ⟨a1,Md,e1,p1,p2,p3⟩:=h1.open;obtain ⟨a2,cap2,e2,q1,q2,q3⟩:=h2.open;subst e1;subst e2;have H1:=hid h1;have H2:=hid h2;have EQ:=fun (a b c d e f:Int) w=>ac7 a b c d e f w;clear h1 h2;by_cases hne:k.length=l.length
 · obtain ⟨n,hn⟩:=aA k.length;have hn2:n=l.length:=aj;have HN:=hid hn;have AQ:=hid hn2;rw [←hn] at p1 hk ⊢;rw [←hn2] at q1 hl ⊢;clear hne hn hn2;go_enter func38,ntmps38;go_wp2;go_loopw [5] (fun s5 wr=>∃ i:Nat,i≤n∧s5=.int .i64 i∧Hid (Below w.heap.size w wr)∧Hid (k.take i=l.take i)) (fun s5 _=>n-(intOf s5).toNat)
   (case atStart=>exact ⟨0,aj,rfl,Below.refl _ _,rfl⟩);case round=>
    obtain ⟨i,hi,rfl,HB,HE⟩:=hrel;by_cases hlt:i<n
    · have hik:i<k.length:=(by rw [←HN.out];exact hlt);have hil:i<l.length:=(by rw [←AQ.out];exact hlt);obtain ⟨b1,o1,rfl,x1⟩:=(H1.out.keep HB.out).get hik;obtain ⟨b2,o2,rfl,x2⟩:=(H2.out.keep HB.out).get hil;obtain ⟨x,hx⟩:=aA (k[i]);obtain ⟨y,hy⟩:=aA (l[i]);have c0:=x1 i hik 0 aj;have c1:=x1 i hik 1 aj;have c2:=x1 i hik 2 aj;have d0:=x2 i hil 0 aj;have d1:=x2 i hil 1 aj;have d2:=x2 i hil 2 aj;rw [←hx] at c0 c1 c2;rw [←hy] at d0 d1 d2;have a0:∀ t:Rg.T,Rg.at' t 0=t.1:=fun t=>rfl;have a1:∀ t:Rg.T,Rg.at' t 1=t.2.1:=fun t=>rfl;have a2:∀ t:Rg.T,Rg.at' t 2=t.2.2:=fun t=>rfl;rw [a0,Nat.add_zero] at c0 d0;rw [a1] at c1 d1;rw [a2] at c2 d2;have Qt:=fun w=>EQ x.1 x.2.1 x.2.2 y.1 y.2.1 y.2.2 w;have nG:(i:Int)<n:=aj;have HX:=hid hx;have HY:=hid hy;clear x1 x2 a0 a1 a2 EQ hx hy;by_cases hxy:x=y
      · have hd:decide (((x.1,x.2.1,x.2.2):Rg.T)=(y.1,y.2.1,y.2.2))=true:=decide_eq_true hxy;rw [hd] at Qt;have oG:=hid hxy;clear hd hxy;(go_upto_region 6 with fail);(go_quiet (fail));go_wp2;go_roundw
        (case rel=>refine ⟨i+1,aj,aN,hid (cB HB.out _),?_⟩;show k.take (i+1)=l.take (i+1);rw [List.take_add_one,List.take_add_one,HE.out,List.getElem?_eq_getElem hik,List.getElem?_eq_getElem hil,←HX.out,←HY.out,oG.out]);case measure=>simp [intOf];omega
      {have hd:decide (((x.1,x.2.1,x.2.2):Rg.T)=(y.1,y.2.1,y.2.2))=false:=decide_eq_false hxy;rw [hd] at Qt;have hr:decide (k=l)=false:=(by rw [decide_eq_false_iff_not];intro e;subst e;exact hxy (HX.out.trans HY.out.symm));have HR:=hid hr;clear hd hxy hr;(go_upto_region 6 with fail);(go_quiet (fail));go_wp2;go_ret;exact ⟨by rw [HR.out];rfl,cB HB.out _⟩}
    {obtain rfl:i=n:=aj;have hr:decide (k=l)=true:=(by have:=HE.out;rw [List.take_of_length_le (by rw [←HN.out];exact Nat.le_refl _),List.take_of_length_le (by rw [←AQ.out];exact Nat.le_refl _)] at this;exact decide_eq_true this);have HR:=hid hr;clear hr;go_wp2;go_ret;exact ⟨by rw [HR.out];rfl,HB.out⟩}
 {have hr:decide (k=l)=false:=(by rw [decide_eq_false_iff_not];intro e;exact hne (by rw [e]));have hb:(((k.length:Nat):Int)==((l.length:Nat):Int))=false:=(by rw [beq_eq_false_iff_ne];omega);have HR:=hid hr;clear hr;go_enter func38,ntmps38;go_wp2;go_ret;exact ⟨by rw [HR.out];rfl,Below.refl _ _⟩}
section
variable {H:Type} {enc:TypeId×Value→H} {W:World} {base:Nat} {v:Value} {d:DataW H} {p:List MemPlace}
end
end Go.Proofs.YtjaebndajhppgaaGreatDoor
