/-GRg6-/
import Derived.Test.YtjaebndajhppgaaGreatDoorMlHd1
import Derived.Test.YtjaebndajhppgaaGreatDoorMlGRg4
import Derived.Test.YtjaebndajhppgaaGreatDoorMlGRg5
set_option linter.unusedVariables false
set_option linter.unusedSimpArgs false
set_option maxRecDepth 100000
set_option maxHeartbeats 1000000
namespace Go.Proofs.YtjaebndajhppgaaGreatDoor
open Go.Proofs.Tryz
open Go.ChangeShapes Go.WideShapes Go.ChangeAt Go.RowKit
open Go.Sort
theorem Tryz.rainfo77:(prog.info? 77).map (fun i=>(i.zero,i.size,i.bytes))=some (some (.agg #[.int .i64 0,.int .i64 0,.int .i64 0]),3,24):=aD
theorem Oq:fl []=[]:=by simp [fl,flatK]
theorem Ot (l:List Rg.T) (t:Rg.T):fl (l++[t])=fl l++tl t:=by apply List.ext_getElem?;intro j;by_cases hj:j<(l.length+1)*3;{obtain ⟨u,hu⟩:∃ u,(fl (l++[t]))[j]?=some u:=⟨_,List.getElem?_eq_getElem (by rw [pK,List.length_append];exact hj)⟩;obtain ⟨h1,rfl⟩:=AU hu;rw [hu];have hm:j % 3<3:=Nat.mod_lt _ aH;by_cases hl:j<l.length*3;{rw [List.getElem?_append_left (by rw [pK];exact hl)];have:=Xv l (j / 3) (j % 3) aj hm;rw [show j / 3*3+j % 3=j by omega] at this;rw [this,List.getElem_append_left aj]};{rw [List.getElem?_append_right (by rw [pK];omega),pK];have e:j-l.length*3=j % 3:=aj;rw [e,nI t _ hm,List.getElem_append_right aj];simp}};{rw [List.getElem?_eq_none (by rw [pK,List.length_append];simp;omega),List.getElem?_eq_none (by rw [List.length_append,pK];simp [tl];omega)]}
def yK (B:Nat) (W:World) (v:Value) (L:List Rg.T):Prop:=∃ a cap,v=.slice a L.length cap∧gG W v L∧(L.length=0∨∃ g,a=some ⟨g,0,none⟩∧B≤g∧g<W.heap.size∧HoldsK tl 3 W g 0 L.toArray)
theorem yK.at {B:Nat} {W:World} {v:Value} {L:List Rg.T} (h:yK B W v L):gG W v L:=by obtain ⟨a,cap,rfl,h,_⟩:=h;exact h
theorem abr {W:World} {base n:Nat} {v:Value} {L:List Rg.T} (h:W.ownsRow base 77 3 v n (fl L)) (hn:n=L.length):yK base W v L:=by subst hn;have hO:=h;rcases h.2 with ⟨rfl,h0⟩ | ⟨g,cp,cur,rfl,hg,hh,hcp,hcm,_⟩;{have h1:L=[]:=List.eq_nil_of_length_eq_zero h0;subst h1;exact ⟨none,0,rfl,gG.nil W,Or.inl rfl⟩};{exact ⟨_,cp,rfl,L9 (AV hO) hcp hcm,Or.inr ⟨g,rfl,hg,(hO.lt g rfl).2,AV hO⟩⟩}
theorem abt {l:List Rg.T} (hl:l.Pairwise Rg.lt) (hn:l.Nodup) (c:Nat) (P:Rg.T→Bool):Rg.O ((Rg.O l c).filter P) 0=l.filter P:=by refine List.Perm.eq_of_pairwise (le:=Rg.lt) (fun a b _ _ h1 h2=>absurd h2 (Rg.lt_asymm h1)) (Rg.wS _ 0 aj ?_) (hl.filter P) ((Rg.jr _ 0).trans ((Rg.jr l c).filter P));exact ((Rg.jr l c).symm.nodup hn).filter P
theorem abu (base:Nat) (lv:Value) (M:List Rg.T) (W:World) (hO:W.ownsRow base 77 3 lv M.length (fl M)) (hM:M.length≤100) :
  Calls prog 80 #[lv,.func (.func 81) #[] #[]] W fun e w'=>e=.returned (.tuple #[])∧yK base w' lv (Rg.O M 0)∧∀ B w0,RowKit.Below B w0 W→B≤base→B≤W.heap.size→RowKit.Below B w0 w':=by have su:=hO;rcases hO.2 with ⟨rfl,h0⟩ | ⟨g,cp,cur,rfl,hg,hh,hcp,hcm,_⟩;{have h1:M=[]:=List.eq_nil_of_length_eq_zero h0;subst h1;refine (Ma 81 0 none #[] W).mono ?_;rintro e w' ⟨rfl,rfl⟩;have e0:Rg.O [] 0=[]:=List.eq_nil_of_length_eq_zero (by rw [Rg.lW];rfl);rw [e0];exact ⟨rfl,⟨none,0,rfl,gG.nil _,Or.inl rfl⟩,fun B w0 h _ _=>h⟩};{refine (L_ 0 81 aj #[] g cp M W (enters_of func81 aD rfl) hM (Xz g _ W) (AV su) (su.lt g rfl).2 hcp hcm).mono ?_;rintro e w' ⟨rfl,hI,hB,_,hH⟩;refine ⟨rfl,⟨some ⟨g,0,none⟩,cp,by rw [Rg.lW],hI,?_⟩,fun B w0 h1 h2 h3=>hB B w0 h1 aj h3⟩;rcases Nat.eq_zero_or_pos M.length with h0 | h0;{exact Or.inl (by rw [Rg.lW];exact h0)};{exact Or.inr ⟨g,rfl,hg,lt_of_cell (HoldsK.cell hH (i:=0) (c:=0) (by simp [Rg.lW];exact h0) aj).1,hH⟩}}
theorem Ou (p:Nat) (l:List Rg.T) (t:Rg.T) (w:World) (h:kI w p l) (ht:∀ c,c<3→-9223372036854775808≤Rg.at' t c) :
  Calls prog 39 #[.pointer (some ⟨p,0,none⟩),tv t] w fun e w'=>∃ v,e=.returned v∧yK w.heap.size w' v (l.filter (Rg.mt t))∧Below w.heap.size w w':=by
 obtain ⟨i0,hi,hz0,hz1,hz2⟩:=info_parts Tryz.rainfo77;have HR:=hid h;have HT:=hid ht;have hcc:=(Rg.DU t).1;have hL:=h.2.2.1;have hce:=Rg.count_eq l t;have hq:l.countP (Rg.dV t).2.2≤l.length:=List.countP_le_length;clear h ht;unfold tv;go_enter func39,ntmps39;go_upto_region 1 with fail
 obtain ⟨w1,hw1,HX,HB,HD,hz⟩:=Az w t;rw [←hw1];obtain ⟨c0,c1,c2⟩:=kH HX.out;clear hw1;have FD:=Xg p l t w1 (HR.out.keep HB.out) HT.out;unfold fv tv at FD;obtain ⟨cc,yL⟩:=aA ((Rg.dV t).1);obtain ⟨n1,hn1⟩:=aA (l.countP (Rg.dV t).2.1);obtain ⟨n2,hn2⟩:=aA (l.countP (Rg.dV t).2.2);rw [←yL,←hn1,←hn2] at FD;rw [←yL] at hcc;rw [←hn1,←hn2] at hce;rw [←hn2] at hq;obtain ⟨M,hM⟩:=aA ((Rg.O l cc).filter (Rg.mt t));have Gj:M.length=n2-n1:=by rw [hM,hn1,hn2,yL];exact Rg.ou t
 have Ov:∀ i (h:i<M.length),(Rg.O l cc)[n1+i]?=some M[i]:=fun i h=>by have h1:=Rg.WX HR.out.nodup t i (by rw [←hn1,←hn2,←Gj];exact h);rw [←yL,←hn1,←hM] at h1;rw [h1,List.getElem?_eq_getElem h]
 have Ow:Rg.O M 0=l.filter (Rg.mt t):=by rw [hM];exact abt HR.out.1 HR.out.nodup cc _
 have HMG:=hid Ov;have HMO:=hid Ow;have HML:=hid Gj;clear yL hn1 hn2 hM Gj Ov Ow HD;go_upto_region 4 with (go_at_call 78;refine FD.mono ?_;rintro e w2 ⟨rfl,hb2⟩)
 obtain ⟨w3,hw3,HF,HB3⟩:=uG w2 (.int .i64 cc) (.int .i64 n1) (.int .i64 n2) 131;rw [←hw3];have hz3:w3.heap.size=w2.heap.size+1:=by rw [hw3];simp
 have dK:=hid (aG HB.out (aG hb2 HB3.out));have hzz:=hb2.size;clear hw3 FD c0 c1 c2 hb2 HB3 HX;have k1:=HF.out.cell (i:=1) rfl;go_wp2;obtain ⟨wo,hwo⟩:∃ wo:World,wo=w3:=⟨_,rfl⟩;go_loopw [6,7] (fun s6 s7 wr=>∃ (j:Nat) (lv:Value),j≤M.length∧s7=.int .i64 (n1+j:Nat)∧s6=lv∧Hid (Below w.heap.size w wr)∧Hid (ak wr w2.heap.size [.int .i64 cc,.int .i64 n1,.int .i64 n2] 131)∧Hid (wr.ownsRow (w2.heap.size+1) 77 3 lv j (fl (M.take j)))) (fun s6 s7 _=>n2-(intOf s7).toNat)
 case atStart=>exact ⟨0,.slice none 0 0,aj,rfl,rfl,dK.out,HF.out,by rw [List.take_zero,Oq];exact hid (World.ownsRow_nil _ _ _ _)⟩
 case round=>
  obtain ⟨j,lv,hj,rfl,hlv,gK,yM,HO⟩:=hrel;have hlv2:=hlv.symm;subst hlv2;have d0:=yM.out.cell (i:=0) rfl;have d2:=yM.out.cell (i:=2) rfl;have hml:=HML.out;by_cases hlt:j<M.length
  · obtain ⟨x,hx⟩:=aA (M[j]);have RW:=Xr p cc (n1+j) l x wr (HR.out.keep gK.out) hcc (by rw [hx];exact HMG.out j hlt);unfold tv at RW;have hfl:fl (M.take j)++tl x=fl (M.take (j+1)):=(by rw [←Ot,hx,List.take_add_one,List.getElem?_eq_getElem hlt];rfl);have tH:=hid hfl;have hbz:=gK.out.size;clear hfl hx;(go_upto_region 8 with fail);have ael:n1+j+1≤100:=aj;go_wp2_with (first
     | (go_at_call 79;refine RW.mono ?_;rintro e w5 ⟨rfl,hb5⟩;have aR:=hid hb5;have oz:=hid (D6 HO.out hb5);clear hb5)
     | (at_builtin;refine rG rfl (.tmp 21) (.tmp 27) 79 rfl (w2.heap.size+1) 77 i0 _ 3 24 underlying79 hi hz0 hz1 hz2 rfl aH _ _ _ rfl (oz.out.alloc _) (some ⟨w5.heap.size,0,none⟩) 1 1 (tl x) rfl ?nil rfl ?news ?one ?b1 ?b2 ?base ?_))
    (case nil=>intro h;cases h);case news=>
     intro ad had k u hu;cases had;match k with
     | 0=>simp [tl] at hu;subst hu;simp [go_sem]
     | 1=>simp [tl] at hu;subst hu;simp [go_sem]
     | 2=>simp [tl] at hu;subst hu;simp [go_sem]
     | k+3=>simp [tl] at hu
    (case one=>intro u hu;simp [tl] at hu;rcases hu with rfl | rfl | rfl <;> rfl);(case b1=>unfold maxLen;omega);(case b2=>omega);(case base=>have:=aR.out.size;have:=yM.out.lt;simp;omega);intro Ld w6 hown hgr hmv;rw [tH.out] at hown;have uF:=aR.out.size;have hlt2:=yM.out.lt;have hgr5:w5.grownBy w6 lv.ownBlock:=⟨hgr.os,hgr.tape,hgr.output,by have:=hgr.size;simp at this;omega,fun k hk hne=>by rw [hgr.block k (by simp;omega) hne,RowKit.Below.heap_alloc _ _ _ hk]⟩;have l8:∀ k,lv.ownBlock=some k→w2.heap.size+1≤k:=fun k hk=>(oz.out.lt k hk).1;have A9:ak w6 w2.heap.size [.int .i64 cc,.int .i64 n1,.int .i64 n2] 131:=(by have h:=yM.out.keep aR.out;unfold ak at *;rw [hgr5.block w2.heap.size aj (fun e=>by have:=l8 _ e.symm;omega)];exact h);have aO:RowKit.Below w.heap.size w w6:=(aG gK.out aR.out).grown hgr5 (by have:=gK.out.size;omega) (fun k hk=>by have:=l8 k hk;have:=HB.out.size;omega);have HOWN:=hid hown;have abv:=hid A9;have abw:=hid aO;clear hown hgr hmv hgr5 l8 A9 aO oz;go_wp2;go_roundw
    (case rel=>exact ⟨j+1,_,aj,aN,rfl,abw.out,abv.out,HOWN.out⟩);case measure=>simp [intOf];omega
  {have hjm:j=M.length:=aj;have hO:=HO.out;rw [hjm,List.take_length] at hO;have SO:=abu _ lv M wr hO aj;rw [HMO.out] at SO;have aem:¬ (n1:Int)+j<n2:=aj;clear hO HO;(go_wp2_with (go_at_call 80;refine SO.mono ?_;rintro e w6 ⟨rfl,hI6,sD⟩));go_ret;have h1:=HB.out.size;obtain ⟨a,cap,hv,h3,h4⟩:=hI6;refine ⟨_,rfl,⟨a,cap,hv,h3,?_⟩,sD _ _ gK.out aj gK.out.size⟩;rcases h4 with h4 | ⟨g,e1,e2,e3,e4⟩;{exact Or.inl h4};{exact Or.inr ⟨g,e1,aj,e3,e4⟩}}
end Go.Proofs.YtjaebndajhppgaaGreatDoor
