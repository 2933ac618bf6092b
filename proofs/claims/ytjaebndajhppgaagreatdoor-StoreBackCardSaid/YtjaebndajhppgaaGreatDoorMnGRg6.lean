/-GRg6-/
import Derived.Test.YtjaebndajhppgaaGreatDoorMnGRg4
import Derived.Test.YtjaebndajhppgaaGreatDoorMnGRg5
set_option linter.unusedVariables false
set_option linter.unusedSimpArgs false
set_option maxRecDepth 100000
set_option maxHeartbeats 1000000
namespace Go.Proofs.YtjaebndajhppgaaGreatDoor
open Go.ChangeShapes Go.WideShapes Go.ChangeAt Go.RowKit
open Go.Sort
theorem Tryz.rainfo77:(Tryz.prog.info? 77).map (fun i=>(i.zero,i.size,i.bytes))=some (some (.agg #[.int .i64 0,.int .i64 0,.int .i64 0]),3,24):=by kernel_rfl
theorem Po:fl []=[]:=by simp [fl,flatK]
theorem Pp (l:List Rg.T) (t:Rg.T):fl (l++[t])=fl l++tl t:=by apply List.ext_getElem?;intro j;by_cases hj:j<(l.length+1)*3;{obtain ⟨u,hu⟩:∃ u,(fl (l++[t]))[j]?=some u:=⟨_,List.getElem?_eq_getElem (by rw [nX,List.length_append];exact hj)⟩;obtain ⟨h1,rfl⟩:=Ai hu;rw [hu];have hm:j % 3<3:=Nat.mod_lt _ (by decide);by_cases hl:j<l.length*3;{rw [List.getElem?_append_left (by rw [nX];exact hl)];have:=Yx l (j / 3) (j % 3) (by omega) hm;rw [show j / 3*3+j % 3=j by omega] at this;rw [this,List.getElem_append_left (by omega)]};{rw [List.getElem?_append_right (by rw [nX];omega),nX];have e:j-l.length*3=j % 3:=(by omega);rw [e,l7 t _ hm,List.getElem_append_right (by omega)];simp}};{rw [List.getElem?_eq_none (by rw [nX,List.length_append];simp;omega),List.getElem?_eq_none (by rw [List.length_append,nX];simp [tl];omega)]}
def yu (B:Nat) (W:World) (v:Value) (L:List Rg.T):Prop:=∃ a cap,v=.slice a L.length cap∧eX W v L∧(L.length=0∨∃ g,a=some ⟨g,0,none⟩∧B≤g∧g<W.heap.size∧HoldsK tl 3 W g 0 L.toArray)
theorem yu.at {B:Nat} {W:World} {v:Value} {L:List Rg.T} (h:yu B W v L):eX W v L:=by obtain ⟨a,cap,rfl,h,_⟩:=h;exact h
theorem acG {W:World} {base n:Nat} {v:Value} {L:List Rg.T} (h:W.ownsRow base 77 3 v n (fl L)) (hn:n=L.length):yu base W v L:=by subst hn;have hO:=h;rcases h.2 with ⟨rfl,h0⟩ | ⟨g,cp,cur,rfl,hg,hh,hcp,hcm,_⟩;{have h1:L=[]:=List.eq_nil_of_length_eq_zero h0;subst h1;exact ⟨none,0,rfl,eX.nil W,Or.inl rfl⟩};{exact ⟨_,cp,rfl,MI (Aj hO) hcp hcm,Or.inr ⟨g,rfl,hg,(hO.lt g rfl).2,Aj hO⟩⟩}
theorem acH {l:List Rg.T} (hl:l.Pairwise Rg.lt) (hn:l.Nodup) (c:Nat) (P:Rg.T→Bool):Rg.O ((Rg.O l c).filter P) 0=l.filter P:=by refine List.Perm.eq_of_pairwise (le:=Rg.lt) (fun a b _ _ h1 h2=>absurd h2 (Rg.lt_asymm h1)) (Rg.wC _ 0 (by omega) ?_) (hl.filter P) ((Rg.iJ _ 0).trans ((Rg.iJ l c).filter P));exact ((Rg.iJ l c).symm.nodup hn).filter P
theorem acI (base:Nat) (lv:Value) (M:List Rg.T) (W:World) (hO:W.ownsRow base 77 3 lv M.length (fl M)) (hM:M.length≤100) :
  Calls Tryz.prog 80 #[lv,.func (.func 81) #[] #[]] W fun e w'=>e=.returned (.tuple #[])∧yu base w' lv (Rg.O M 0)∧∀ B w0,RowKit.Below B w0 W→B≤base→B≤W.heap.size→RowKit.Below B w0 w':=by have q9:=hO;rcases hO.2 with ⟨rfl,h0⟩ | ⟨g,cp,cur,rfl,hg,hh,hcp,hcm,_⟩;{have h1:M=[]:=List.eq_nil_of_length_eq_zero h0;subst h1;refine (ML 81 0 none #[] W).mono ?_;rintro e w' ⟨rfl,rfl⟩;have e0:Rg.O [] 0=[]:=List.eq_nil_of_length_eq_zero (by rw [Rg.kD];rfl);rw [e0];exact ⟨rfl,⟨none,0,rfl,eX.nil _,Or.inl rfl⟩,fun B w0 h _ _=>h⟩};{refine (MJ 0 81 (by omega) #[] g cp M W (enters_of Tryz.func81 (by kernel_rfl) rfl) hM (YB g _ W) (Aj q9) (q9.lt g rfl).2 hcp hcm).mono ?_;rintro e w' ⟨rfl,hI,hB,_,hH⟩;refine ⟨rfl,⟨some ⟨g,0,none⟩,cp,by rw [Rg.kD],hI,?_⟩,fun B w0 h1 h2 h3=>hB B w0 h1 (by omega) h3⟩;rcases Nat.eq_zero_or_pos M.length with h0 | h0;{exact Or.inl (by rw [Rg.kD];exact h0)};{exact Or.inr ⟨g,rfl,hg,lt_of_cell (HoldsK.cell hH (i:=0) (c:=0) (by simp [Rg.kD];exact h0) (by omega)).1,hH⟩}}
theorem Pq (p:Nat) (l:List Rg.T) (t:Rg.T) (w:World) (h:jC w p l) (ht:∀ c,c<3→-9223372036854775808≤Rg.at' t c) :
  Calls Tryz.prog 39 #[.pointer (some ⟨p,0,none⟩),tv t] w fun e w'=>∃ v,e=.returned v∧yu w.heap.size w' v (l.filter (Rg.mt t))∧Below w.heap.size w w':=by
 obtain ⟨i0,hi,hz0,hz1,hz2⟩:=info_parts Tryz.rainfo77;have HR:=hid h;have HT:=hid ht;have hcc:=(Rg.DY t).1;have hL:=h.2.2.1;have hce:=Rg.count_eq l t;have hq:l.countP (Rg.b_ t).2.2≤l.length:=List.countP_le_length;clear h ht;unfold tv;go_enter Tryz.func39,Tryz.ntmps39;go_upto_region 1 with fail
 obtain ⟨w1,hw1,HX,HB,HD,hz⟩:=Ac w t;rw [←hw1];obtain ⟨c0,c1,c2⟩:=jB HX.out;clear hw1;have FD:=Yh p l t w1 (HR.out.keep HB.out) HT.out;unfold fv tv at FD;obtain ⟨cc,yw⟩:∃ cc,cc=(Rg.b_ t).1:=⟨_,rfl⟩;obtain ⟨n1,hn1⟩:∃ n,n=l.countP (Rg.b_ t).2.1:=⟨_,rfl⟩;obtain ⟨n2,hn2⟩:∃ n,n=l.countP (Rg.b_ t).2.2:=⟨_,rfl⟩;rw [←yw,←hn1,←hn2] at FD;rw [←yw] at hcc;rw [←hn1,←hn2] at hce;rw [←hn2] at hq;obtain ⟨M,hM⟩:∃ M,M=(Rg.O l cc).filter (Rg.mt t):=⟨_,rfl⟩;have Gz:M.length=n2-n1:=by rw [hM,hn1,hn2,yw];exact Rg.mW t
 have Pt:∀ i (h:i<M.length),(Rg.O l cc)[n1+i]?=some M[i]:=fun i h=>by have h1:=Rg.X7 HR.out.nodup t i (by rw [←hn1,←hn2,←Gz];exact h);rw [←yw,←hn1,←hM] at h1;rw [h1,List.getElem?_eq_getElem h]
 have Pv:Rg.O M 0=l.filter (Rg.mt t):=by rw [hM];exact acH HR.out.1 HR.out.nodup cc _
 have HMG:=hid Pt;have HMO:=hid Pv;have HML:=hid Gz;clear yw hn1 hn2 hM Gz Pt Pv HD;go_upto_region 4 with (go_at_call 78;refine FD.mono ?_;rintro e w2 ⟨rfl,hb2⟩)
 obtain ⟨w3,hw3,HF,HB3⟩:=tO w2 (.int .i64 cc) (.int .i64 n1) (.int .i64 n2) 131;rw [←hw3];have hz3:w3.heap.size=w2.heap.size+1:=by rw [hw3];simp
 have bR:=hid (aA HB.out (aA hb2 HB3.out));have hzz:=hb2.size;clear hw3 FD c0 c1 c2 hb2 HB3 HX;have k1:=HF.out.cell (i:=1) rfl;go_wp2;obtain ⟨wo,hwo⟩:∃ wo:World,wo=w3:=⟨_,rfl⟩;go_loopw [6,7] (fun s6 s7 wr=>∃ (j:Nat) (lv:Value),j≤M.length∧s7=.int .i64 (n1+j:Nat)∧s6=lv∧Hid (Below w.heap.size w wr)∧Hid (aj wr w2.heap.size [.int .i64 cc,.int .i64 n1,.int .i64 n2] 131)∧Hid (wr.ownsRow (w2.heap.size+1) 77 3 lv j (fl (M.take j)))) (fun s6 s7 _=>n2-(intOf s7).toNat)
 case atStart=>exact ⟨0,.slice none 0 0,by omega,rfl,rfl,bR.out,HF.out,by rw [List.take_zero,Po];exact hid (World.ownsRow_nil _ _ _ _)⟩
 case round=>
  obtain ⟨j,lv,hj,rfl,hlv,d9,yx,HO⟩:=hrel;have hlv2:=hlv.symm;subst hlv2;have d0:=yx.out.cell (i:=0) rfl;have d2:=yx.out.cell (i:=2) rfl;have hml:=HML.out;by_cases hlt:j<M.length
  · obtain ⟨x,hx⟩:∃ x,x=M[j]:=⟨_,rfl⟩;have RW:=Yt p cc (n1+j) l x wr (HR.out.keep d9.out) hcc (by rw [hx];exact HMG.out j hlt);unfold tv at RW;have hfl:fl (M.take j)++tl x=fl (M.take (j+1)):=(by rw [←Pp,hx,List.take_add_one,List.getElem?_eq_getElem hlt];rfl);have rW:=hid hfl;have hbz:=d9.out.size;clear hfl hx;(go_upto_region 8 with fail);have ags:n1+j+1≤100:=(by omega);go_wp2_with (first
     | (go_at_call 79;refine RW.mono ?_;rintro e w5 ⟨rfl,hb5⟩;have aH:=hid hb5;have mX:=hid (Ee HO.out hb5);clear hb5)
     | (at_builtin;refine qI rfl (.tmp 21) (.tmp 27) 79 rfl (w2.heap.size+1) 77 i0 _ 3 24 Tryz.underlying79 hi hz0 hz1 hz2 rfl (by decide) _ _ _ rfl (mX.out.alloc _) (some ⟨w5.heap.size,0,none⟩) 1 1 (tl x) rfl ?nil rfl ?news ?one ?b1 ?b2 ?base ?_))
    (case nil=>intro h;cases h);case news=>
     intro ad had k u hu;cases had;match k with
     | 0=>simp [tl] at hu;subst hu;simp [go_sem]
     | 1=>simp [tl] at hu;subst hu;simp [go_sem]
     | 2=>simp [tl] at hu;subst hu;simp [go_sem]
     | k+3=>simp [tl] at hu
    (case one=>intro u hu;simp [tl] at hu;rcases hu with rfl | rfl | rfl <;> rfl);(case b1=>unfold maxLen;omega);(case b2=>omega);(case base=>have:=aH.out.size;have:=yx.out.lt;simp;omega);intro L9 w6 hown hgr hmv;rw [rW.out] at hown;have tN:=aH.out.size;have hlt2:=yx.out.lt;have hgr5:w5.grownBy w6 lv.ownBlock:=⟨hgr.os,hgr.tape,hgr.output,by have:=hgr.size;simp at this;omega,fun k hk hne=>by rw [hgr.block k (by simp;omega) hne,RowKit.Below.heap_alloc _ _ _ hk]⟩;have kL:∀ k,lv.ownBlock=some k→w2.heap.size+1≤k:=fun k hk=>(mX.out.lt k hk).1;have Ap:aj w6 w2.heap.size [.int .i64 cc,.int .i64 n1,.int .i64 n2] 131:=(by have h:=yx.out.keep aH.out;unfold aj at *;rw [hgr5.block w2.heap.size (by omega) (fun e=>by have:=kL _ e.symm;omega)];exact h);have aP:RowKit.Below w.heap.size w w6:=(aA d9.out aH.out).grown hgr5 (by have:=d9.out.size;omega) (fun k hk=>by have:=kL k hk;have:=HB.out.size;omega);have HOWN:=hid hown;have acJ:=hid Ap;have acK:=hid aP;clear hown hgr hmv hgr5 kL Ap aP mX;go_wp2;go_roundw
    (case rel=>exact ⟨j+1,_,by omega,by go_num,rfl,acK.out,acJ.out,HOWN.out⟩);case measure=>simp [intOf];omega
  {have hjm:j=M.length:=(by omega);have hO:=HO.out;rw [hjm,List.take_length] at hO;have SO:=acI _ lv M wr hO (by omega);rw [HMO.out] at SO;have agt:¬ (n1:Int)+j<n2:=(by omega);clear hO HO;(go_wp2_with (go_at_call 80;refine SO.mono ?_;rintro e w6 ⟨rfl,hI6,ru⟩));go_ret;have h1:=HB.out.size;obtain ⟨a,cap,hv,h3,h4⟩:=hI6;refine ⟨_,rfl,⟨a,cap,hv,h3,?_⟩,ru _ _ d9.out (by omega) d9.out.size⟩;rcases h4 with h4 | ⟨g,e1,e2,e3,e4⟩;{exact Or.inl h4};{exact Or.inr ⟨g,e1,by omega,e3,e4⟩}}
end Go.Proofs.YtjaebndajhppgaaGreatDoor
