/-GAu2-/
import Derived.Test.YtockbaekcbeenaaGreatDoorMkHd1
import Derived.Test.YtockbaekcbeenaaGreatDoorMkGAu1
import Derived.Test.YtockbaekcbeenaaGreatDoorMkGTm1
import Derived.Deep.AppendLies
import Derived.Laws.BitsAllLaws
import Derived.Deep.DeepCutAuto
import Derived.Deep.RegionLaw
import Derived.Lib.SliceRun
set_option linter.unusedVariables false
set_option linter.unusedSimpArgs false
set_option maxRecDepth 100000
set_option maxHeartbeats 2000000
namespace Go.Proofs.YtockbaekcbeenaaGreatDoor
open Go.Proofs.Tryz
open Go.ChangeShapes Go.WideShapes Go.ChangeAt Go.RowKit
open Au
def bN (x:Nat):Value:=.int .u32 (x:Nat)
def jU (X:Nat→Prop) (w:World) (P:World→Prop):Prop:=∀ w'',(∀ k,k<w.heap.size→¬ X k→w''.heap[k]?=w.heap[k]?)→P w''
theorem jU.here {X:Nat→Prop} {w:World} {P:World→Prop} (h:jU X w P):P w:=h w fun _ _ _=>rfl
theorem jU.aW {X Y Z:Nat→Prop} {w w':World} {P:World→Prop} (h:jU X w P) (hf:aM Y w w') (Zd:∀ k,k<w.heap.size→Y k→X k) (Ze:∀ k,k<w.heap.size→Z k→X k):jU Z w' P:=
 fun w'' hw=>h w'' fun k hk hx=>by rw [hw k (Nat.lt_of_lt_of_le hk hf.size) (fun hz=>hx (Ze k hk hz)),hf.block k hk (fun hy=>hx (Zd k hk hy))]
def mO (p lb nb:Nat) (Y:Nat→Prop) (k:Nat):Prop:=k=p∨k=lb∨k=nb∨Y k
structure cK (B:Nat) (Y:Nat→Prop) (w:World) (p lb cl nb cn:Nat) (bH:List Value) (ls:List Lb) (nx:List Nat) (last:Nat):Prop where
 blk:aB w p [.slice (some ⟨lb,0,none⟩) ls.length cl,.slice (some ⟨nb,0,none⟩) nx.length cn,bN last] 163
 fP:w.ownsRow B 170 3 (.slice (some ⟨lb,0,none⟩) ls.length cl) ls.length bH
 eY:w.ownsRow B 161 1 (.slice (some ⟨nb,0,none⟩) nx.length cn) nx.length (nx.map bN)
 pB:B≤p
 lp:lb≠p
 np:nb≠p
 ln:lb≠nb
 yp:¬ Y p
 yl:¬ Y lb
 yn:¬ Y nb
 bR:∀ j (h:j<ls.length),∃ a n c,bH[j*3]?=some (.bool ls[j].back)∧bH[j*3+1]?=some (.bool ls[j].not)∧bH[j*3+2]?=some (.slice a n c)∧jU (mO p lb nb Y) w (fun W=>iA W (.slice a n c) ls[j].texts)
theorem dS {w:World} {B e size g n cap:Nat} {xs:List Value} (h:w.ownsRow B e size (.slice (some ⟨g,0,none⟩) n cap) n xs):B≤g∧g<w.heap.size∧n≤cap∧cap≤maxLen∧xs.length=n*size∧∃ cur:Array Value,w.heap[g]?=some (.cells cur e (0,0))∧cur.size=cap*size∧cur.toList.take (n*size)=xs:=by obtain ⟨h0,h1 | ⟨g',cap',cur,hv,hb,hg,hn,hm,hs,ht⟩⟩:=h;{cases h1.1};{cases hv;exact ⟨hb,lt_of_block hg,hn,hm,h0,cur,hg,hs,ht⟩}
theorem jV {w:World} {B e size g n cap:Nat} {xs:List Value} (h:w.ownsRow B e size (.slice (some ⟨g,0,none⟩) n cap) n xs) {j:Nat} {u:Value} (hj:xs[j]?=some u):w.cell? ⟨g,j,none⟩=some u∧w.frozen? ⟨g,j,none⟩=false:=by
 obtain ⟨_,_,_,_,hl,cur,hg,hs,ht⟩:=dS h;have h1:cur[j]?=some u:=by rw [←ht,List.getElem?_take] at hj;split at hj;{rw [←Array.getElem?_toList];exact hj};{cases hj}
 exact ⟨by simp [World.cell?,hg,h1],by simp [World.frozen?,hg]⟩
theorem Zf {w:World} {B e size g n cap:Nat} {xs:List Value} (h:w.ownsRow B e size (.slice (some ⟨g,0,none⟩) n cap) n xs) (j:Nat) (u:Value) (hj:j<n*size):(w.setCell ⟨g,j,none⟩ u).ownsRow B e size (.slice (some ⟨g,0,none⟩) n cap) n (xs.set j u):=by obtain ⟨hB,hlt,hn,hm,hl,cur,hg,hs,ht⟩:=dS h;refine ⟨by simp [hl],Or.inr ⟨g,cap,cur.setIfInBounds j u,rfl,hB,?_,hn,hm,by simp [hs],?_⟩⟩;{have hb:aB w g cur.toList e:=(by unfold aB;rw [hg]);have h2:=hb.set j u;unfold aB at h2;rw [h2];congr 2;apply Array.ext';simp};{rw [←ht];simp [List.take_set]}
theorem rE {X:Nat→Prop} {w w':World} {B e size g n cap:Nat} {xs:List Value} (h:w.ownsRow B e size (.slice (some ⟨g,0,none⟩) n cap) n xs) (hf:aM X w w') (hx:¬ X g):w'.ownsRow B e size (.slice (some ⟨g,0,none⟩) n cap) n xs:=by obtain ⟨hB,hlt,hn,hm,hl,cur,hg,hs,ht⟩:=dS h;exact ⟨hl,Or.inr ⟨g,cap,cur,rfl,hB,by rw [hf.block g hlt hx,hg],hn,hm,hs,ht⟩⟩
section
variable {B:Nat} {Y:Nat→Prop} {w w':World} {p lb cl nb cn:Nat} {bH:List Value} {ls:List Lb} {nx:List Nat} {last:Nat}
theorem cK.aW {Z:Nat→Prop} (h:cK B Y w p lb cl nb cn bH ls nx last) (hf:aM Z w w') (hZ:∀ k,k<w.heap.size→Z k→Y k):cK B Y w' p lb cl nb cn bH ls nx last where
 blk:=h.blk.aW hf fun hz=>h.yp (hZ _ h.blk.lt hz)
 fP:=rE h.fP hf fun hz=>h.yl (hZ _ (dS h.fP).2.1 hz)
 eY:=rE h.eY hf fun hz=>h.yn (hZ _ (dS h.eY).2.1 hz)
 pB:=h.pB
 lp:=h.lp
 np:=h.np
 ln:=h.ln
 yp:=h.yp
 yl:=h.yl
 yn:=h.yn
 bR:=fun j hj=>by
  obtain ⟨a,n,c,h1,h2,h3,h4⟩:=h.bR j hj
  exact ⟨a,n,c,h1,h2,h3,h4.aW hf (fun k hk hz=>Or.inr (Or.inr (Or.inr (hZ k hk hz)))) (fun k _ hz=>hz)⟩
theorem cK.keep (h:cK B Y w p lb cl nb cn bH ls nx last) (hb:Below w.heap.size w w'):cK B Y w' p lb cl nb cn bH ls nx last:=h.aW (Z:=fun _=>False) (aM.of_below hb) (fun _ _ h=>h.elim)
theorem cK.more {Z:Nat→Prop} (h:cK B Y w p lb cl nb cn bH ls nx last) (hZ:∀ k,Z k→Y k∨w.heap.size≤k):cK B Z w p lb cl nb cn bH ls nx last where
 blk:=h.blk
 fP:=h.fP
 eY:=h.eY
 pB:=h.pB
 lp:=h.lp
 np:=h.np
 ln:=h.ln
 yp:=fun hz=>(hZ _ hz).elim h.yp fun hl=>absurd h.blk.lt ay
 yl:=fun hz=>(hZ _ hz).elim h.yl fun hl=>absurd (dS h.fP).2.1 ay
 yn:=fun hz=>(hZ _ hz).elim h.yn fun hl=>absurd (dS h.eY).2.1 ay
 bR:=fun j hj=>by
  obtain ⟨a,n,c,h1,h2,h3,h4⟩:=h.bR j hj
  refine ⟨a,n,c,h1,h2,h3,h4.aW (aM.refl (fun _=>False) w) (fun _ _ h=>h.elim) (fun k hk hz=>?_)⟩
  rcases hz with hz | hz | hz | hz
  · exact Or.inl hz
  · exact Or.inr (Or.inl hz)
  · exact Or.inr (Or.inr (Or.inl hz))
  · exact (hZ k hz).elim (fun h=>Or.inr (Or.inr (Or.inr h))) (fun hl=>ay)
theorem cK.Aj (h:cK B Y w p lb cl nb cn bH ls nx last) (i x:Nat) (hi:i<nx.length):cK B Y (w.setCell ⟨nb,i,none⟩ (bN x)) p lb cl nb cn bH ls (nx.set i x) last where
 blk:=by have:=h.blk.other (c:=nb) (fun e=>h.np e.symm) i (bN x);simpa using this
 fP:=rE (X:=fun k=>k=nb) h.fP (aM.set (X:=fun k=>k=nb) (aM.refl _ w) (Or.inl rfl) _ _) (fun e=>h.ln e)
 eY:=by
  have:=Zf h.eY i (bN x) ay
  rw [←List.map_set] at this
  simpa using this
 pB:=h.pB
 lp:=h.lp
 np:=h.np
 ln:=h.ln
 yp:=h.yp
 yl:=h.yl
 yn:=h.yn
 bR:=fun j hj=>by
  obtain ⟨a,n,c,h1,h2,h3,h4⟩:=h.bR j hj
  exact ⟨a,n,c,h1,h2,h3,h4.aW (Y:=fun k=>k=nb) (aM.set (X:=fun k=>k=nb) (aM.refl _ w) (Or.inl rfl) _ _) (fun k _ hz=>Or.inr (Or.inr (Or.inl hz))) (fun k _ hz=>hz)⟩
theorem cK.setLast (h:cK B Y w p lb cl nb cn bH ls nx last) (x:Nat):cK B Y (w.setCell ⟨p,2,none⟩ (bN x)) p lb cl nb cn bH ls nx x where
 blk:=by have:=h.blk.set 2 (bN x);simpa using this
 fP:=rE (X:=fun k=>k=p) h.fP (aM.set (X:=fun k=>k=p) (aM.refl _ w) (Or.inl rfl) _ _) (fun e=>h.lp e)
 eY:=rE (X:=fun k=>k=p) h.eY (aM.set (X:=fun k=>k=p) (aM.refl _ w) (Or.inl rfl) _ _) (fun e=>h.np e)
 pB:=h.pB
 lp:=h.lp
 np:=h.np
 ln:=h.ln
 yp:=h.yp
 yl:=h.yl
 yn:=h.yn
 bR:=fun j hj=>by
  obtain ⟨a,n,c,h1,h2,h3,h4⟩:=h.bR j hj
  exact ⟨a,n,c,h1,h2,h3,h4.aW (Y:=fun k=>k=p) (aM.set (X:=fun k=>k=p) (aM.refl _ w) (Or.inl rfl) _ _) (fun k _ hz=>Or.inl hz) (fun k _ hz=>hz)⟩
theorem cK.pz (h:cK B Y w p lb cl nb cn bH ls nx last) {i:Nat} (hi:i<nx.length):w.cell? ⟨nb,i,none⟩=some (bN (nx.getD i 0))∧w.frozen? ⟨nb,i,none⟩=false:=
 jV h.eY (by rw [List.getElem?_map,List.getElem?_eq_getElem hi];simp [List.getD,hi])
end
theorem IB (i:Nat) (hi:i<32) (w:World):Calls prog 85 #[.int .i64 i] w fun e w'=>e=.returned (bN (2 ^ i))∧w'=w:=by
 go_enter func85,ntmps85;go_wp2;go_ret;refine ⟨?_,rfl⟩;have h1:(2:Nat) ^ i<4294967296:=by have h:=Nat.pow_lt_pow_right (a:=2) ay hi;simpa using h
 show Ending.returned (.int .u32 ((2:Int) ^ i % 4294967296))=_;unfold bN;rw [show ((2:Int) ^ i)=((2 ^ i:Nat):Int) from (Int.natCast_pow 2 i).symm];obtain ⟨m,hm⟩:∃ m:Nat,m=2 ^ i:=⟨_,rfl⟩;rw [←hm] at h1 ⊢;rw [show ((m:Nat):Int) % 4294967296=(m:Int) by omega]
theorem D9 (x i:Nat) (hx:x<2 ^ 32) (hi:i<64) (w:World):Calls prog 88 #[bN x,.int .i64 i] w fun e w'=>e=.returned (.bool (x.testBit i))∧w'=w:=by
 unfold bN;go_enter func88,ntmps88;go_wp2;go_ret;refine ⟨?_,rfl⟩;show Ending.returned (.bool (bits BinOp.and IntKind.u32 (↑x / 2 ^ min i 32) 1==1))=_;refine iN ?_;have hx':x<4294967296:=hx;have e1:((x:Int) / 2 ^ min i 32)=((x / 2 ^ min i 32:Nat):Int):=by rw [Int.natCast_ediv,Int.natCast_pow];rfl
 have h2:x / 2 ^ min i 32≤x:=Nat.div_le_self _ _;rw [e1,show (1:Int)=((1:Nat):Int) from rfl,u32_and_nat _ _ ay ay];have h3:(x / 2 ^ min i 32) &&& 1=(x / 2 ^ min i 32) % 2:=Nat.and_one_is_mod _;rw [h3];have h4:x.testBit i=decide (x / 2 ^ min i 32 % 2=1):=by rw [Nat.testBit_eq_decide_div_mod_eq];by_cases h:i≤32;{rw [Nat.min_eq_left h]};{rw [Nat.min_eq_right ay];have a1:x / 2 ^ i=0:=Nat.div_eq_of_lt (Nat.lt_of_lt_of_le hx (Nat.pow_le_pow_right ay ay));have a2:x / 2 ^ 32=0:=Nat.div_eq_of_lt hx;rw [a1,a2]}
 rw [h4,Bool.eq_iff_iff];simp only [beq_iff_eq,decide_eq_true_iff];omega
theorem IE (a b:Nat) (ha:a<2 ^ 32) (hb:b<2 ^ 32):bits .or .u32 (a:Int) (b:Int)=((a ||| b:Nat):Int):=u32_or_nat a b ha hb
theorem O_ {a b:Nat} (ha:a<2 ^ 32) (hb:b<2 ^ 32):a ||| b<2 ^ 32:=Nat.or_lt_two_pow ha hb
open Go.ChangeShapes Go.WideShapes Go.ChangeAt Go.RowKit
open Au
theorem iT {w w':World} {row:Option Nat} (h:w.grownBy w' row):aM (fun k=>row=some k) w w':=⟨h.os,h.tape,h.output,h.size,fun k hk hx=>h.block k hk (fun e=>hx e.symm)⟩
theorem D_ {w w':World} {g:Nat} (h:w.grownBy w' (some g)):aM (fun k=>k=g) w w':=(iT h).weaken fun k _ e=>by simpa using (Option.some.inj e).symm
section
variable {B:Nat} {Y:Nat→Prop} {w w':World} {p lb cl nb cn:Nat} {bH:List Value} {ls:List Lb} {nx:List Nat} {last:Nat}
theorem cK.Zg (h:cK B Y w p lb cl nb cn bH ls nx last) {g cap:Nat} {l:Lb} {a:Option Addr} {m c:Nat}
  (hown:w'.ownsRow B 170 3 (.slice (some ⟨g,0,none⟩) (ls.length+1) cap) (ls.length+1) (bH++[.bool l.back,.bool l.not,.slice a m c]))
  (hgr:w.grownBy w' (some lb)) (hg:some lb=some g∨g=w.heap.size) (hY:∀ k,Y k→k<w.heap.size) (hT:jU (mO p lb nb Y) w (fun W=>iA W (.slice a m c) l.texts)) :
  cK B Y (w'.setCell ⟨p,0,none⟩ (.slice (some ⟨g,0,none⟩) (ls.length+1) cap)) p g cap nb cn (bH++[.bool l.back,.bool l.not,.slice a m c]) (ls++[l]) nx last:=by
 have hf:aM (fun k=>k=lb) w w':=D_ hgr;have hf2:aM (fun k=>k=lb∨k=p) w (w'.setCell ⟨p,0,none⟩ (.slice (some ⟨g,0,none⟩) (ls.length+1) cap)):=aM.set (X:=fun k=>k=lb∨k=p) (hf.weaken (fun k _ e=>Or.inl e)) (Or.inl (Or.inr rfl)) _ _;have hpl:=h.blk.lt;have hnl:=(dS h.eY).2.1;have hll:=(dS h.fP).2.1;have xX:g≠p:=by rcases hg with e | e;(cases e;exact h.lp);omega
 have hgn:g≠nb:=by rcases hg with e | e;(cases e;exact h.ln);omega
 have hyg:¬ Y g:=by rcases hg with e | e;(cases e;exact h.yl);exact fun hy=>by have:=hY g hy;omega
 have hxl:bH.length=ls.length*3:=(dS h.fP).2.2.2.2.1;have vJ:∀ k,k<w.heap.size→k=g→k=lb:=fun k hk e=>by rcases hg with e2 | e2;(cases e2;exact e);omega
 refine ⟨?_,?_,?_,h.pB,xX,h.np,hgn,h.yp,hyg,h.yn,fun j hj=>?_⟩;{have:=(h.blk.aW hf (fun e=>h.lp e.symm)).set 0 (.slice (some ⟨g,0,none⟩) (ls.length+1) cap);simpa using this};{have:=rE (X:=fun k=>k=p) hown (aM.set (X:=fun k=>k=p) (aM.refl _ w') (Or.inl rfl) 0 (.slice (some ⟨g,0,none⟩) (ls.length+1) cap)) xX;simpa using this};{exact rE h.eY hf2 (fun e=>by rcases e with e | e;exact h.ln e.symm;exact h.np e)}
 · have key:∀ P,jU (mO p lb nb Y) w P→jU (mO p g nb Y) (w'.setCell ⟨p,0,none⟩ (.slice (some ⟨g,0,none⟩) (ls.length+1) cap)) P:=fun P hP=>
    hP.aW hf2 (fun k _ e=>by rcases e with e | e;exact Or.inr (Or.inl e);exact Or.inl e) (fun k hk e=>by
     rcases e with e | e | e | e;{exact Or.inl e};{exact Or.inr (Or.inl (vJ k hk e))};{exact Or.inr (Or.inr (Or.inl e))}
     · exact Or.inr (Or.inr (Or.inr e)))
   by_cases hjl:j<ls.length;{obtain ⟨a',n',c',h1,h2,h3,h4⟩:=h.bR j hjl;rw [List.getElem_append_left hjl];exact ⟨a',n',c',by rw [List.getElem?_append_left ay];exact h1,by rw [List.getElem?_append_left ay];exact h2,by rw [List.getElem?_append_left ay];exact h3,key _ h4⟩};{have xY:j=ls.length:=(by simp at hj;omega);subst xY;rw [List.getElem_append_right aG];simp only [Nat.sub_self,List.getElem_cons_zero];exact ⟨a,m,c,by rw [List.getElem?_append_right ay,hxl];simp,by rw [List.getElem?_append_right ay,hxl];simp,by rw [List.getElem?_append_right ay,hxl];simp,key _ hT⟩}
theorem cK.Zh (h:cK B Y w p lb cl nb cn bH ls nx last) {g cap x:Nat}
  (hown:w'.ownsRow B 161 1 (.slice (some ⟨g,0,none⟩) (nx.length+1) cap) (nx.length+1) (nx.map bN++[bN x]))
  (hgr:w.grownBy w' (some nb)) (hg:some nb=some g∨g=w.heap.size) (hY:∀ k,Y k→k<w.heap.size) :
  cK B Y (w'.setCell ⟨p,1,none⟩ (.slice (some ⟨g,0,none⟩) (nx.length+1) cap)) p lb cl g cap bH ls (nx++[x]) last:=by
 have hf:aM (fun k=>k=nb) w w':=D_ hgr;have hf2:aM (fun k=>k=nb∨k=p) w (w'.setCell ⟨p,1,none⟩ (.slice (some ⟨g,0,none⟩) (nx.length+1) cap)):=aM.set (X:=fun k=>k=nb∨k=p) (hf.weaken (fun k _ e=>Or.inl e)) (Or.inl (Or.inr rfl)) _ _;have hpl:=h.blk.lt;have hnl:=(dS h.eY).2.1;have hll:=(dS h.fP).2.1;have xX:g≠p:=by rcases hg with e | e;(cases e;exact h.np);omega
 have hgl:lb≠g:=by rcases hg with e | e;(cases e;exact h.ln);omega
 have hyg:¬ Y g:=by rcases hg with e | e;(cases e;exact h.yn);exact fun hy=>by have:=hY g hy;omega
 have vJ:∀ k,k<w.heap.size→k=g→k=nb:=fun k hk e=>by rcases hg with e2 | e2;(cases e2;exact e);omega
 refine ⟨?_,?_,?_,h.pB,h.lp,xX,hgl,h.yp,h.yl,hyg,fun j hj=>?_⟩;{have:=(h.blk.aW hf (fun e=>h.np e.symm)).set 1 (.slice (some ⟨g,0,none⟩) (nx.length+1) cap);simpa using this};{exact rE h.fP hf2 (fun e=>by rcases e with e | e;exact h.ln e;exact h.lp e)};{have:=rE (X:=fun k=>k=p) hown (aM.set (X:=fun k=>k=p) (aM.refl _ w') (Or.inl rfl) 1 (.slice (some ⟨g,0,none⟩) (nx.length+1) cap)) xX;simpa using this}
 · obtain ⟨a',n',c',h1,h2,h3,h4⟩:=h.bR j hj;exact ⟨a',n',c',h1,h2,h3,h4.aW hf2 (fun k _ e=>by rcases e with e | e;exact Or.inr (Or.inr (Or.inl e));exact Or.inl e) (fun k hk e=>by
     rcases e with e | e | e | e;{exact Or.inl e};{exact Or.inr (Or.inl e)};{exact Or.inr (Or.inr (Or.inl (vJ k hk e)))}
     · exact Or.inr (Or.inr (Or.inr e)))⟩
end
def bT (B:Nat) (Y:Nat→Prop) (w:World) (p lb nb:Nat) (ls:List Lb) (nx:List Nat) (last:Nat) (w':World):Prop:=
 ∃ lb' cl' nb' rF rG,cK B Y w' p lb' cl' nb' rF rG ls nx last∧aM (mO p lb nb fun _=>False) w w'∧(lb'=lb∨w.heap.size≤lb')∧(nb'=nb∨w.heap.size≤nb')
theorem nI {P:Program} {t:TypeId} {z:Value} {size bytes:Nat} (h:(P.info? t).map (fun i=>(i.zero,i.size,i.bytes))=some (some z,size,bytes)):∃ i,P.info? t=some i∧i.zero=some z∧i.size=size∧i.bytes=bytes:=by
 cases hp:P.info? t with
 | none=>rw [hp] at h;cases h
 | some i=>rw [hp] at h;simp only [Option.map_some,Option.some.injEq,Prod.mk.injEq] at h;exact ⟨i,rfl,h.1,h.2.1,h.2.2⟩
theorem Tryz.infoLabel:(prog.info? 170).map (fun i=>(i.zero,i.size,i.bytes))=some (some (.agg #[.bool false,.bool false,.slice none 0 0]),3,32):=aF
theorem Tryz.infoPlaces:(prog.info? 161).map (fun i=>(i.zero,i.size,i.bytes))=some (some (.int .u32 0),1,4):=aF
theorem cK.Zi {B:Nat} {Y:Nat→Prop} {w1 W w2:World} {p lb cl nb cn:Nat} {bH:List Value} {ls:List Lb} {nx:List Nat} {last:Nat} (h:cK B Y w1 p lb cl nb cn bH ls nx last) (hW:Below w1.heap.size w1 W) {g cap:Nat} {l:Lb} {a:Option Addr} {m c:Nat}
  (hown:w2.ownsRow B 170 3 (.slice (some ⟨g,0,none⟩) (ls.length+1) cap) (ls.length+1) (bH++[.bool l.back,.bool l.not,.slice a m c]))
  (hgr:W.grownBy w2 (some lb)) {H:Nat} (hg:some lb=some g∨g=H) (hH:W.heap.size=H) (hY:∀ k,Y k→k<w1.heap.size) (hT:jU (mO p lb nb Y) w1 (fun W=>iA W (.slice a m c) l.texts)) :
  Hid (aB w2 p [.slice (some ⟨lb,0,none⟩) ls.length cl,.slice (some ⟨nb,0,none⟩) nx.length cn,bN last] 163) ∧
  Hid (cK B Y (w2.setCell ⟨p,0,none⟩ (.slice (some ⟨g,0,none⟩) (ls.length+1) cap)) p g cap nb cn (bH++[.bool l.back,.bool l.not,.slice a m c]) (ls++[l]) nx last) ∧
  Hid (aM (fun k=>k=p∨k=lb) w1 (w2.setCell ⟨p,0,none⟩ (.slice (some ⟨g,0,none⟩) (ls.length+1) cap)))∧Hid (g=lb∨w1.heap.size≤g):=by subst hH;have h2:=h.keep hW;have hf:aM (fun k=>k=lb) W w2:=D_ hgr;refine ⟨h2.blk.aW hf (fun e=>h.lp e.symm),h2.Zg hown hgr hg (fun k hk=>Nat.lt_of_lt_of_le (hY k hk) hW.size) (hT.aW (Y:=fun _=>False) (aM.of_below hW) (fun _ _ h=>h.elim) (fun _ _ h=>h)),?_,?_⟩;{exact aM.set (X:=fun k=>k=p∨k=lb) ((aM.of_below (X:=fun k=>k=p∨k=lb) hW).trans hf (fun k _ e=>Or.inr e)) (Or.inl (Or.inl rfl)) _ _};{rcases hg with e | e;{cases e;exact Or.inl rfl};{have:=hW.size;exact Or.inr ay}}
theorem cK.Zj {B:Nat} {Y:Nat→Prop} {w1 W w2:World} {p lb cl nb cn:Nat} {bH:List Value} {ls:List Lb} {nx:List Nat} {last x:Nat} (h:cK B Y w1 p lb cl nb cn bH ls nx last) (hW:Below w1.heap.size w1 W) {g cap:Nat}
  (hown:w2.ownsRow B 161 1 (.slice (some ⟨g,0,none⟩) (nx.length+1) cap) (nx.length+1) (nx.map bN++[bN x]))
  (hgr:W.grownBy w2 (some nb)) {H:Nat} (hg:some nb=some g∨g=H) (hH:W.heap.size=H) (hY:∀ k,Y k→k<w1.heap.size) :
  Hid (aB w2 p [.slice (some ⟨lb,0,none⟩) ls.length cl,.slice (some ⟨nb,0,none⟩) nx.length cn,bN last] 163) ∧
  Hid (cK B Y (w2.setCell ⟨p,1,none⟩ (.slice (some ⟨g,0,none⟩) (nx.length+1) cap)) p lb cl g cap bH ls (nx++[x]) last) ∧
  Hid (aM (fun k=>k=p∨k=nb) w1 (w2.setCell ⟨p,1,none⟩ (.slice (some ⟨g,0,none⟩) (nx.length+1) cap)))∧Hid (g=nb∨w1.heap.size≤g):=by subst hH;have h2:=h.keep hW;have hf:aM (fun k=>k=nb) W w2:=D_ hgr;refine ⟨h2.blk.aW hf (fun e=>h.np e.symm),h2.Zh hown hgr hg (fun k hk=>Nat.lt_of_lt_of_le (hY k hk) hW.size),?_,?_⟩;{exact aM.set (X:=fun k=>k=p∨k=nb) ((aM.of_below (X:=fun k=>k=p∨k=nb) hW).trans hf (fun k _ e=>Or.inr e)) (Or.inl (Or.inl rfl)) _ _};{rcases hg with e | e;{cases e;exact Or.inl rfl};{have:=hW.size;exact Or.inr ay}}
theorem xZ {fn:Func} {tmps:Array Value} {Z:World} {b s:Nat} {v0 v1 v2:Value} (ht:tmps.getD s undef=.pointer (some ⟨b,0,none⟩)) (hZ:aB Z b [v0,v1,v2] 165) (hf:fn.results=#[.cell s 165]) :
  (results fn tmps).run prog Z=.ok (.agg #[v0,v1,v2]) Z:=by
 obtain ⟨h0,h1,h2⟩:=bO hZ;have ht':tmps[s]?.getD undef=.pointer (some ⟨b,0,none⟩):=by simpa using ht
 simp [results,hf,ht',go_sem,h0,h1,h2]
def Pb (B:Nat) (Y:Nat→Prop) (w:World) (p lb nb:Nat) (ls:List Lb) (nx:List Nat) (last:Nat) (l:Lb) (e:Ending) (w':World):Prop:=
 e=.returned (.agg #[bN (2 ^ ls.length),bN (2 ^ ls.length),.bool false])∧bT B Y w p lb nb (ls++[l]) (nx++[0]) last w'
theorem Zk {B:Nat} {Y:Nat→Prop} {w:World} {p lb cl nb cn:Nat} {bH:List Value} {ls:List Lb} {nx:List Nat} {last:Nat} (l:Lb) (a:Option Addr) (m c:Nat)
  (h:cK B Y w p lb cl nb cn bH ls nx last) (hY:∀ k,Y k→k<w.heap.size) (hT:jU (mO p lb nb Y) w (fun W=>iA W (.slice a m c) l.texts)) (h32:ls.length<32) (hn32:nx.length<32) (hB:B≤w.heap.size) :
  Calls prog 114 #[.pointer (some ⟨p,0,none⟩),.agg #[.bool l.back,.bool l.not,.slice a m c]] w (Pb B Y w p lb nb ls nx last l):=by
 obtain ⟨iL,dz,IG,hsL,hbL⟩:=nI Tryz.infoLabel;obtain ⟨iP,hiP,Ak,hsP,Al⟩:=nI Tryz.infoPlaces;have ON:=aj (fun w=>IB ls.length h32 w);obtain ⟨w1,hw1⟩:=aC ((w.alloc (.cells #[.bool l.back,.bool l.not,.slice a m c] 170)).alloc (.cells #[.int .u32 0,.int .u32 0,.bool false] 165));have hz1:w1.heap.size=w.heap.size+2:=by rw [hw1];simp
 have hb1:Below w.heap.size w w1:=by rw [hw1];exact ((Below.refl _ _).alloc aG _).alloc aH _
 have hX:aB w1 w.heap.size [.bool l.back,.bool l.not,.slice a m c] 170:=by rw [hw1];exact (aB.new w _ _).alloc _
 have hR:aB w1 (w.heap.size+1) [.int .u32 0,.int .u32 0,.bool false] 165:=by rw [hw1];exact aB.new' aH rfl
 have h1:=((h.more (Z:=fun k=>Y k∨k=w.heap.size+1) (fun k e=>e.elim Or.inl (fun e=>Or.inr ay))).keep hb1);have hT1:jU (mO p lb nb fun k=>Y k∨k=w.heap.size+1) w1 (fun W=>iA W (.slice a m c) l.texts):=hT.aW (Y:=fun _=>False) (aM.of_below hb1) (fun _ _ h=>h.elim) (fun k hk e=>by
  rcases e with e | e | e | e | e;{exact Or.inl e};{exact Or.inr (Or.inl e)};{exact Or.inr (Or.inr (Or.inl e))};{exact Or.inr (Or.inr (Or.inr e))}
  · omega)
 obtain ⟨x0,x1,x2⟩:=bO hX;obtain ⟨a0,a1⟩:=tF h1.blk;have f0:=h1.blk.free 0;have f1:=h1.blk.free 1;have q1:=(dS h1.fP).2.2.1;have q2:=(dS h1.fP).2.2.2.1;have H1:=aj h1;have HT1:=aj hT1;have HB1:=aj hb1;have HR:=aj hR;have HY:=aj hY;have hpl:=h1.blk.lt;have HZ:=aj hz1;clear hb1 hX hR h1 hT1 h hT hY hz1;go_enter func114,ntmps114;go_upto_region 1 with fail
 rw [←hw1];clear hw1;simp only [bN] at ON;go_wp2_with (go_at_call 85;refine (ON.out _).mono ?_;rintro e wq ⟨rfl,hw⟩;rw [hw];clear hw wq)
 have OW:∀ o:Obj,(w1.alloc o).ownsRow B 170 3 (.slice (some ⟨lb,0,none⟩) ls.length cl) ls.length bH:=fun o=>H1.out.fP.alloc o;have ahu:B≤w1.heap.size:=by have:=HZ.out;omega
 have Ea:=aj (show ∀ k,(Y k∨k=w.heap.size+1)→k<w1.heap.size from fun k e=>by have:=HZ.out;rcases e with e | e;(have:=HY.out k e;omega);omega);go_region_law ((refine step_append_lies _ (by rfl) (.tmp 16) (.tmp 18) 158 (by rfl) B 170 iL _ 3 32 underlying158 dz IG hsL hbL rfl aL (.slice (some ⟨lb,0,none⟩) ls.length cl) ls.length bH (by rfl) (OW _) ⟨w1.heap.size,0,none⟩ 1 1 [.bool l.back,.bool l.not,.slice a m c] (by rfl) (by rfl) (World.news_of_block (cs:=#[.bool l.back,.bool l.not,.slice a m c]) (t:=170) (fr:=(0,0)) (heap_alloc_new w1 _)) (by simp [Value.oneCell']) aL (by unfold maxLen;omega) ay (by simp;omega) (w1.heap.size+1) aH ?_;intro g cap w2 hown hgr hg hlt;obtain ⟨hb2,H3,F3,G3⟩:=cK.Zi H1.out (((Below.refl _ _).alloc aG _).drew) hown hgr hg aH Ea.out HT1.out;have p0:=hb2.out.cell (i:=0) rfl;have z0:=hb2.out.free 0))
 all_goals
  obtain ⟨w3,hw3⟩:=aC (w2.setCell ⟨p,0,none⟩ (.slice (some ⟨g,0,none⟩) (ls.length+1) cap))
  rw [←hw3] at H3 F3 ⊢
  clear hw3 hown hgr hg hlt hb2 p0 z0
  have a1:=H3.out.blk.cell (i:=1) rfl
  have f1:=H3.out.blk.free 1
  have hs3:=F3.out.size
  have ahv:B≤w3.heap.size:=ay
  have Zl:∀ o:Obj,(w3.alloc o).ownsRow B 161 1 (.slice (some ⟨nb,0,none⟩) nx.length cn) nx.length (nx.map bN):=fun o=>H3.out.eY.alloc o
  have nJ:=aj (show ∀ k,(Y k∨k=w.heap.size+1)→k<w3.heap.size from fun k e=>Nat.lt_of_lt_of_le (Ea.out k e) hs3)
  clear hs3
  go_wp2_with (at_builtin;refine wpList_append_lies _ (by rfl) (.tmp 26) (.tmp 27) 159 (by rfl) B 161 iP _ 1 4 underlying159 hiP Ak hsP Al rfl aL (.slice (some ⟨nb,0,none⟩) nx.length cn) nx.length (nx.map bN) (by rfl) (Zl _) ⟨w3.heap.size,0,none⟩ 1 1 [.int .u32 0] (by rfl) (by rfl) (World.news_of_block (cs:=#[.int .u32 0]) (t:=161) (fr:=(0,0)) (heap_alloc_new w3 _)) (by simp [Value.oneCell']) aL (by unfold maxLen;omega) ay (by simp;omega) (w3.heap.size+1) aH ?_;intro g4 cap4 w4 Pf Pg hg4 Zm;obtain ⟨hb4,H4,F4,G4⟩:=cK.Zj (x:=0) H3.out ((Below.refl _ _).alloc aG _) Pf Pg hg4 aH nJ.out;have p4:=hb4.out.cell (i:=1) rfl;have z4:=hb4.out.free 1;clear Pf Pg hg4 Zm hb4;have hbl:=((HR.out.aW F3.out (fun e=>e.elim (fun e=>H1.out.yp (Or.inr e.symm)) (fun e=>H1.out.yl (Or.inr e.symm)))).aW F4.out (fun e=>e.elim (fun e=>H1.out.yp (Or.inr e.symm)) (fun e=>H1.out.yn (Or.inr e.symm))));have r0:=hbl.cell (i:=0) rfl;have r1:=hbl.cell (i:=1) rfl;have r2:=hbl.cell (i:=2) rfl;have s0:=hbl.free 0;have s1:=hbl.free 1;have s2:=hbl.free 2;have pE:=aj hbl;clear hbl)
  have hz:=HZ.out
  refine bodyPost_ret (v:=.agg #[bN (2 ^ ls.length),bN (2 ^ ls.length),.bool false]) (xZ (s:=4) rfl (((pE.out.set 0 _).set 1 _).set 2 _) results114) rfl ⟨rfl,g,cap,g4,cap4,_,((H4.out.aW (Z:=fun k=>k=w.heap.size+1) (aM.set (X:=fun k=>k=w.heap.size+1) (aM.set (X:=fun k=>k=w.heap.size+1) (aM.set (X:=fun k=>k=w.heap.size+1) (aM.refl _ _) (Or.inl rfl) _ _) (Or.inl rfl) _ _) (Or.inl rfl) _ _) (fun k _ e=>Or.inr e)).more (fun k e=>Or.inl (Or.inl e))),?_,?_,?_⟩
  · refine aM.set (aM.set (aM.set (X:=mO p lb nb fun _=>False) ?_ (Or.inr ay) _ _) (Or.inr ay) _ _) (Or.inr ay) _ _
    exact ((aM.of_below (X:=mO p lb nb fun _=>False) HB1.out).trans F3.out (fun k _ e=>e.elim Or.inl (fun e=>Or.inr (Or.inl e)))).trans F4.out (fun k _ e=>e.elim Or.inl (fun e=>Or.inr (Or.inr (Or.inl e))))
  · exact G3.out.elim Or.inl (fun e=>Or.inr ay)
  · have:=F3.out.size
    exact G4.out.elim Or.inl (fun e=>Or.inr ay)
open Go.ChangeShapes Go.WideShapes Go.ChangeAt Go.RowKit
open Au
def fM (nx:List Nat) (f t i:Nat):List Nat:=(List.range nx.length).map fun j=>if j<i∧f.testBit j=true then nx.getD j 0 ||| t else nx.getD j 0
theorem II (nx:List Nat) (f t i:Nat):(fM nx f t i).length=nx.length:=by simp [fM]
theorem Eb (nx:List Nat) (f t i j:Nat) (h:j<nx.length):(fM nx f t i).getD j 0=if j<i∧f.testBit j=true then nx.getD j 0 ||| t else nx.getD j 0:=by simp [fM,List.getD,h]
theorem Zn (nx:List Nat) (f t:Nat):fM nx f t 0=nx:=by apply List.ext_getElem (by simp [fM]);intro j h1 h2;simp [fM,List.getD,h2]
theorem Zo (nx:List Nat) (f t i:Nat) (h:f.testBit i=false):fM nx f t (i+1)=fM nx f t i:=by unfold fM;refine List.map_congr_left fun j _=>?_;by_cases hj:j=i;{subst hj;rw [h];simp};{have:(j<i+1)↔j<i:=ay;simp only [this]}
theorem Zp (nx:List Nat) (f t i:Nat) (h:f.testBit i=true) (hi:i<nx.length):(fM nx f t i).set i (nx.getD i 0 ||| t)=fM nx f t (i+1):=by
 apply List.ext_getElem (by simp [fM]);intro j h1 h2;have hj:j<nx.length:=by simpa [fM] using h2
 rw [List.getElem_set];split;{rename_i e;subst e;simp [fM,h]};{rename_i e;simp only [fM,List.getElem_map,List.getElem_range];have:(j<i+1)↔j<i:=ay;simp only [this]}
theorem Ec {B:Nat} {Y:Nat→Prop} {w:World} {p lb cl nb cn:Nat} {bH:List Value} {ls:List Lb} {nx:List Nat} {last:Nat} (f t:Nat)
  (h:cK B Y w p lb cl nb cn bH ls nx last) (hn:nx.length≤32) (hf:f<2 ^ 32) (ht:t<2 ^ 32) (hx:∀ j,nx.getD j 0<2 ^ 32) :
  Calls prog 116 #[.pointer (some ⟨p,0,none⟩),bN f,bN t] w fun e w'=>e=.returned (.tuple #[])∧cK B Y w' p lb cl nb cn bH ls (fM nx f t nx.length) last∧aM (fun k=>k=nb) w w':=by
 have HA:=aj fun i (hi:i<64) w=>D9 f i hf hi w;have c1:=h.blk.cell (i:=1) rfl;have HX:=aj hx;have H:=aj h;have HF:=aj hf;have iB:=aj ht;have HS:=aj fun i=>II nx f t i;obtain ⟨N,hN⟩:=aC nx.length;have HN:=aj hN;rw [←hN] at hn c1 ⊢;have hq:=(dS h.eY).2.2.1;have hq2:=(dS h.eY).2.2.2.1;rw [←hN] at hq;clear h hx hN hf ht;simp only [bN] at HA;unfold bN;go_enter func116,ntmps116;go_wp2;go_loopw [12] (fun s12 wr=>∃ i:Nat,i≤N∧s12=.int .i64 i∧Hid (cK B Y wr p lb cl nb cn bH ls (fM nx f t i) last)∧Hid (aM (fun k=>k=nb) w wr)) (fun s12 _=>N-(intOf s12).toNat)
 case atStart=>exact ⟨0,ay,rfl,aj (by rw [Zn];exact H.out),aM.refl _ _⟩
 case round=>
  obtain ⟨i,hi,rfl,Am,oz⟩:=hrel;by_cases hlt:i<N
  · have Ed:i<nx.length:=(by rw [←HN.out];exact hlt);have d1:=Am.out.blk.cell (i:=1) rfl;rw [HS.out,←HN.out] at d1;have hc:=Am.out.pz (i:=i) (by rw [HS.out];exact Ed);obtain ⟨e0,fz⟩:=hc;have hg:(fM nx f t i).getD i 0=nx.getD i 0:=(by rw [Eb _ _ _ _ _ Ed];simp);rw [hg] at e0;have hxi:=HX.out i;have x9:=aj fun w=>HA.out i ay w;obtain ⟨x,hx⟩:=aC (nx.getD i 0);rw [←hx] at e0 hxi;have ho:=IE x t hxi iB.out;have dZ:=aj hx;have jf:=aj Ed;simp only [bN] at e0;clear hx hg Ed;cases hb:f.testBit i
    · rw [hb] at x9;have HU:=aj (Zo nx f t i hb);clear hb;(go_wp2_with (go_at_call 88;refine (x9.out _).mono ?_;rintro e w' ⟨rfl,hw⟩;subst hw));go_roundw
      (case rel=>exact ⟨i+1,ay,aN,aj (by rw [HU.out];exact Am.out),oz.out⟩);case measure=>simp [intOf];omega
    · rw [hb] at x9;have HU:=aj (Zp nx f t i hb jf.out);clear hb;(go_wp2_with (go_at_call 88;refine (x9.out _).mono ?_;rintro e w' ⟨rfl,hw⟩;subst hw));go_roundw
      (case rel=>refine ⟨i+1,ay,aN,?_,?_⟩;{have h:=Am.out.Aj i (x ||| t) (by rw [HS.out];exact jf.out);rw [dZ.out,HU.out] at h;rw [dZ.out];exact h};{exact aM.set (X:=fun k=>k=nb) oz.out (Or.inl rfl) _ _});case measure=>simp [intOf];omega
  {obtain rfl:i=N:=ay;go_wp2;refine bodyPost_end (v:=.tuple #[]) aF rfl ?_;exact ⟨rfl,Am.out,oz.out⟩}
structure Rows (r:Rx) (m:Nat) (nx nx':List Nat):Prop where
 len:nx'.length=m+r.n
 old:∀ i,i<m→nx'.getD i 0=nx.getD i 0
 new:∀ i j,m≤i→i<m+r.n→(nx'.getD i 0).testBit j=r.jT m i j
 lt:∀ i,nx'.getD i 0<2 ^ 32
def Set (F:Nat) (f:Nat→Bool):Prop:=F<2 ^ 32∧∀ j,F.testBit j=f j
theorem Set.or {F G:Nat} {f g:Nat→Bool} (h:Set F f) (k:Set G g):Set (F ||| G) (fun j=>f j || g j):=⟨O_ h.1 k.1,fun j=>by rw [Nat.testBit_or,h.2,k.2]⟩
theorem Set.congr {F:Nat} {f g:Nat→Bool} (h:Set F f) (e:∀ j,f j=g j):Set F g:=⟨h.1,fun j=>by rw [h.2,e]⟩
theorem Set.one {m:Nat} (h:m<32):Set (2 ^ m) (fun j=>decide (j=m)):=⟨Nat.pow_lt_pow_right ay h,fun j=>by rw [Nat.testBit_two_pow,Bool.eq_iff_iff,decide_eq_true_iff,decide_eq_true_iff];exact eq_comm⟩
theorem IJ {r:Rx} {m j:Nat} (h:j<m∨m+r.n≤j):r.jS m j=false:=by cases hc:r.jS m j;{rfl};{have:=Rx.tQ r m j hc;omega}
theorem Zq {r:Rx} {m i j:Nat} (h:i<m∨m+r.n≤i):r.jT m i j=false:=by cases hc:r.jT m i j;{rfl};{have:=Rx.vH r m i j hc;omega}
theorem Zr (l:Lb) {m:Nat} {nx:List Nat} (hm:nx.length=m) (hl:∀ i,nx.getD i 0<2 ^ 32):Rows (.leaf l) m nx (nx++[0]) where
 len:=by simp [hm,Rx.D6]
 old:=fun i hi=>Hg ay
 new:=fun i j h1 h2=>by
  rw [Rx.D6] at h2
  rw [Hl ay,show i-nx.length=0 by omega]
  simp [Rx.jT]
 lt:=fun i=>by
  by_cases hi:i<nx.length
  · rw [Hg hi];exact hl i
  · rw [Hl ay]
    have:∀ j,([0]:List Nat).getD j 0=0:=fun j=>by cases j <;> simp [List.getD]
    rw [this];decide
theorem Zt {nx:List Nat} {f t n:Nat} (hl:∀ i,nx.getD i 0<2 ^ 32) (ht:t<2 ^ 32) (i:Nat):(fM nx f t n).getD i 0<2 ^ 32:=by by_cases hi:i<nx.length;{rw [Eb _ _ _ _ _ hi];split;{exact O_ (hl i) ht};{exact hl i}};{have:(fM nx f t n)[i]?=none:=(by rw [List.getElem?_eq_none];rw [II];omega);simp only [List.getD,this];decide}
theorem Ee (c:Rx) {a:Rx} {m:Nat} {nx Ef:List Nat} {F L:Nat} (h:Rows a m nx Ef) (hF:Set F (a.fst m)) (hL:Set L (a.jS m)) (hc:c.n=a.n) (hf:∀ i j,c.jT m i j=(a.jT m i j || (a.jS m i && a.fst m j))):Rows c m nx (fM Ef L F Ef.length) where
 len:=by rw [II,h.len,hc]
 old:=fun i hi=>by
  rw [Eb _ _ _ _ _ (by rw [h.len];omega),hL.2,IJ (Or.inl hi),if_neg aH,h.old i hi]
 new:=fun i j h1 h2=>by
  rw [hc] at h2
  have hi:i<Ef.length:=by rw [h.len];omega
  rw [Eb _ _ _ _ _ hi,hL.2,hf]
  have:=h.new i j h1 h2
  cases hl:a.jS m i
  · rw [if_neg aH,this];simp
  · rw [if_pos ⟨hi,rfl⟩,Nat.testBit_or,this,hF.2];simp
 lt:=fun i=>Zt h.lt hF.1 i
theorem bT.from {B:Nat} {Y Z:Nat→Prop} {w w1 w2:World} {p lb nb:Nat} {ls:List Lb} {nx:List Nat} {last:Nat} (hb:Below w.heap.size w w1) (h:bT B Z w1 p lb nb ls nx last w2) (hY:∀ k,Y k→Z k):bT B Y w p lb nb ls nx last w2:=by obtain ⟨lb',cl',nb',rF,rG,h1,h2,h3,h4⟩:=h;have:=hb.size;exact ⟨lb',cl',nb',rF,rG,h1.more (fun k e=>Or.inl (hY k e)),(aM.of_below (X:=mO p lb nb fun _=>False) hb).trans h2 (fun _ _ e=>e),h3.elim Or.inl (fun e=>Or.inr ay),h4.elim Or.inl (fun e=>Or.inr ay)⟩
theorem bT.set {B:Nat} {Y:Nat→Prop} {w w2:World} {p lb nb:Nat} {ls:List Lb} {nx:List Nat} {last:Nat} (h:bT B Y w p lb nb ls nx last w2) {b:Nat} (hb:Y b) (hl:w.heap.size≤b) (i:Nat) (v:Value):bT B Y w p lb nb ls nx last (w2.setCell ⟨b,i,none⟩ v):=by obtain ⟨lb',cl',nb',rF,rG,h1,h2,h3,h4⟩:=h;exact ⟨lb',cl',nb',rF,rG,h1.aW (Z:=fun k=>k=b) (aM.set (X:=fun k=>k=b) (aM.refl _ _) (Or.inl rfl) _ _) (fun k _ e=>by cases e;exact hb),aM.set h2 (Or.inr hl) _ _,h3,h4⟩
theorem bT.alloc {B:Nat} {Y:Nat→Prop} {w w2:World} {p lb nb:Nat} {ls:List Lb} {nx:List Nat} {last:Nat} (h:bT B Y w p lb nb ls nx last w2) (o:Obj):bT B (fun k=>Y k∨k=w2.heap.size) w p lb nb ls nx last (w2.alloc o):=by obtain ⟨lb',cl',nb',rF,rG,h1,h2,h3,h4⟩:=h;refine ⟨lb',cl',nb',rF,rG,(h1.more (fun k e=>e.elim Or.inl (fun e=>Or.inr ay))).keep ((Below.refl _ _).alloc aG o),h2.alloc o,h3,h4⟩
theorem bT.then {B:Nat} {Y:Nat→Prop} {w w1 w2:World} {p lb nb IK IL:Nat} {ls:List Lb} {nx:List Nat} {last:Nat} (hf:aM (mO p lb nb fun _=>False) w w1) (h3:IK=lb∨w.heap.size≤IK) (h4:IL=nb∨w.heap.size≤IL) (k:bT B Y w1 p IK IL ls nx last w2):bT B Y w p lb nb ls nx last w2:=by obtain ⟨lb',cl',nb',rF,rG,k1,k2,k3,k4⟩:=k;have hs:=hf.size;refine ⟨lb',cl',nb',rF,rG,k1,hf.trans k2 (fun i hi e=>?_),?_,?_⟩;{rcases e with e | e | e | e;{exact Or.inl e};{rcases h3 with h3 | h3;{exact Or.inr (Or.inl ay)};{omega}};{rcases h4 with h4 | h4;{exact Or.inr (Or.inr (Or.inl ay))};{omega}};{exact e.elim}};{rcases k3 with k3 | k3;{rw [k3];exact h3};{exact Or.inr ay}};{rcases k4 with k4 | k4;{rw [k4];exact h4};{exact Or.inr ay}}
theorem bT.blk {B:Nat} {Y:Nat→Prop} {w w2:World} {p lb cl nb cn:Nat} {bH:List Value} {ls ls':List Lb} {nx nx':List Nat} {last last':Nat} (h:cK B Y w p lb cl nb cn bH ls nx last) (k:bT B Y w p lb nb ls' nx' last' w2) {b:Nat} {A:List Value} {t:TypeId} (hb:Y b) (hA:aB w b A t):aB w2 b A t:=by obtain ⟨_,_,_,_,_,_,k2,_,_⟩:=k;exact hA.aW k2 fun e=>by rcases e with e | e | e | e;{exact h.yp (e ▸ hb)};{exact h.yl (e ▸ hb)};{exact h.yn (e ▸ hb)};{exact e}
theorem bT.size {B:Nat} {Y:Nat→Prop} {w w2:World} {p lb nb:Nat} {ls:List Lb} {nx:List Nat} {last:Nat} (k:bT B Y w p lb nb ls nx last w2):w.heap.size≤w2.heap.size:=by obtain ⟨_,_,_,_,_,_,k2,_,_⟩:=k;exact k2.size
theorem bT.below {B:Nat} {Y:Nat→Prop} {w w2:World} {p lb cl nb cn:Nat} {bH:List Value} {ls ls':List Lb} {nx nx':List Nat} {last last':Nat} (h:cK B Y w p lb cl nb cn bH ls nx last) (k:bT B Y w p lb nb ls' nx' last' w2):Below B w w2:=by obtain ⟨_,_,_,_,_,_,k2,_,_⟩:=k;have h1:=h.pB;have h2:=(dS h.fP).1;have h3:=(dS h.eY).1;have h4:=h.blk.lt;exact k2.below ay fun i hi e=>by rcases e with e | e | e | e;{omega};{omega};{omega};{exact e}
def Ao (B:Nat) (Y:Nat→Prop) (w:World) (p lb nb:Nat) (ls:List Lb) (nx:List Nat) (last:Nat) (r:Rx) (e:Ending) (w':World):Prop:=
 ∃ F L nx',e=.returned (.agg #[bN F,bN L,.bool r.emp])∧Set F (r.fst ls.length)∧Set L (r.jS ls.length)∧Rows r ls.length nx nx'∧bT B Y w p lb nb (ls++r.bR) nx' last w'
theorem Tryz.info9:(prog.info? 9).map (fun i=>(i.zero,i.size,i.bytes))=some (some (.string ByteArray.empty),1,16):=aF
theorem Zu (L:List (List UInt8)) (n:Nat) (hn:n=L.length):(List.range n).map (fun i=>aA (L[i]?.getD []))=L.map aA:=by subst hn;refine List.ext_getElem aH fun i h1 h2=>?_;simp [show i<L.length by simpa using h1]
def From (B:Nat) (w:World) (v:Value) (L:List (List UInt8)):Prop:=∀ w'',(∀ k,B≤k→k<w.heap.size→w''.heap[k]?=w.heap[k]?)→iA w'' v L
theorem Zv {w:World} {B n:Nat} {v:Value} {L:List (List UInt8)} (h:w.ownsRow B 9 1 v n (L.map aA)) (hn:n=L.length):From B w v L:=by intro w'' hw;refine dQ.own (base:=B) (t:=9) (n:=n) ?_ hn;obtain ⟨h1,h2⟩:=h;refine ⟨h1,?_⟩;rcases h2 with h2 | ⟨g,cap,cur,e,hg,hh,r⟩;{exact .inl h2};{exact .inr ⟨g,cap,cur,e,hg,by rw [hw g hg (lt_of_block hh)];exact hh,r⟩}
theorem Zw (v:Value) (L:List (List UInt8)) (W:World) (h:iA W v L) (hL:L.length≤300) :
  Calls prog 89 #[v] W fun e W'=>∃ v',e=.returned v'∧Below W.heap.size W W'∧iA W' v' L∧From W.heap.size W' v' L:=by
 obtain ⟨i0,hi,hz0,hz1,hz2⟩:=info_parts Tryz.info9;obtain ⟨a,cap,rfl,hc1,hc2,hc3,hR⟩:=h.open;obtain ⟨n,hn⟩:=aC L.length;rw [←hn] at hc1 hc3 hR hL ⊢;cases a with
 | none=>obtain ⟨h1,h2⟩:=hc3 rfl;have hl:L=[]:=List.eq_nil_of_length_eq_zero ay;subst hl;obtain rfl:n=0:=h1;obtain rfl:cap=0:=h2;clear h hc1 hc2 hc3 hR hi hz0 hz1 hz2 hn hL;have he:=fun W=>Go.Lib.run_eql_slice_nil (P:=prog) W 23 9 none 0 0 0 0 underlying23;go_enter func89,ntmps89;go_wp2;go_ret;exact ⟨_,rfl,Below.refl _ _,dQ.nil _,fun _ _=>dQ.nil _⟩
 | some a=>
  have HR:=aj hR;have HN:=aj hn;clear hc3 hR hn h;have he:=fun W=>Go.Lib.run_eql_slice_nil (P:=prog) W 23 9 (some a) n cap 0 0 underlying23;go_enter func89,ntmps89;go_wp2_with (at_builtin;refine M5 rfl (.tmp 5) (.tmp 6) 23 rfl W.heap.size 9 i0 _ 16 underlying23 hi hz0 hz1 hz2 rfl (.slice (some ⟨W.heap.size,0,none⟩) 0 0) 0 [] rfl ?own (some a) n cap (fun i=>aA (L.getD i [])) rfl ?nil ?row ?one ?b1 ?b2 ?base ?_)
  case own=>exact World.ownsRow_made W #[] 0 aG (by unfold maxLen;omega) rfl
  case nil=>exact fun h=>by cases h
  case row=>exact HR.out.keep ((Below.refl _ _).alloc aG _)
  case one=>intro j _;rfl
  case b1=>unfold maxLen;omega
  case b2=>omega
  case base=>simp
  intro v1 w1 hown hgr;rw [Zu L n HN.out] at hown;have hb:Below W.heap.size W w1:=((Below.refl W.heap.size W).alloc aG _).grown hgr aH (fun k hk=>by simp only [Value.ownBlock,Option.some.injEq] at hk;omega);have HO:=aj hown;have HB:=aj hb;clear hown hgr hb;go_wp2;go_ret;exact ⟨_,rfl,HB.out,dQ.own HO.out HN.out,Zv HO.out HN.out⟩
def qB (x j:Nat):Nat:=((List.range j).filter fun i=>x.testBit i).length
def tot (nx:List Nat) (N i:Nat):Nat:=((List.range i).map fun a=>qB (nx.getD a 0) N).sum
theorem Zx (x j:Nat):qB x (j+1)=qB x j+if x.testBit j then 1 else 0:=by unfold qB;rw [List.range_succ,List.filter_append,List.length_append];congr 1;by_cases h:x.testBit j <;> simp [h]
theorem Ph (nx:List Nat) (N i:Nat):tot nx N (i+1)=tot nx N i+qB (nx.getD i 0) N:=by unfold tot;rw [List.range_succ,List.map_append,List.sum_append];simp
theorem Pj (x j:Nat):qB x j≤j:=by unfold qB;have:=List.length_filter_le (fun i=>x.testBit i) (List.range j);simpa using this
theorem Zy (nx:List Nat) (N i:Nat):tot nx N i≤i*N:=by
 induction i with
 | zero=>simp [tot]
 | succ i ih=>have:=Pj (nx.getD i 0) N;rw [Ph,Nat.succ_mul];omega
theorem Eh {B:Nat} {Y:Nat→Prop} {w:World} {p lb cl nb cn:Nat} {bH:List Value} {ls:List Lb} {nx:List Nat} {last:Nat}
  (h:cK B Y w p lb cl nb cn bH ls nx last) (hn:nx.length≤32) (hx:∀ j,nx.getD j 0<2 ^ 32) :
  Calls prog 86 #[.pointer (some ⟨p,0,none⟩)] w fun e w'=>e=.returned (.int .i64 (tot nx nx.length nx.length))∧w'=w:=by
 have HA:=aj fun i x (hx:x<2 ^ 32) (hi:i<64) w=>D9 x i hx hi w;have HX:=aj hx;have c1:=h.blk.cell (i:=1) rfl;have HC:=aj fun i (hi:i<nx.length)=>(h.pz hi).1;have HT:=aj fun i=>Ph nx nx.length i;have lM:=aj fun i=>Zy nx nx.length i;obtain ⟨N,hN⟩:=aC nx.length;have hq:=(dS h.eY).2.2.1;have hq2:=(dS h.eY).2.2.2.1;rw [←hN] at hn c1 HC HT lM hq ⊢;clear h hx hN;unfold bN at HA HC;go_enter func86,ntmps86;go_wp2;go_loopw [3,12] (fun s3 s12 wr=>∃ i:Nat,i≤N∧s3=.int .i64 (tot nx N i:Nat)∧s12=.int .i64 i∧wr=w) (fun _ s12 _=>N-(intOf s12).toNat)
 case atStart=>exact ⟨0,ay,rfl,rfl,rfl⟩
 case round=>
  obtain ⟨i,hi,rfl,rfl,eD⟩:=hrel;subst eD;by_cases hlt:i<N
  · have e0:=HC.out i hlt;have hxi:=HX.out i;have ht1:=HT.out i;have hle:=lM.out i;obtain ⟨x,hx⟩:=aC (nx.getD i 0);rw [←hx] at e0 hxi ht1;obtain ⟨T0,hT0⟩:=aC (tot nx N i);have hmul:i*N≤32*32:=Nat.mul_le_mul ay hn;rw [←hT0] at ht1 hle ⊢;have HT1:=aj ht1;have hTs:T0≤1024:=ay;have x9:=aj fun j (hj:j<64) w=>HA.out j x hxi hj w;clear hx hT0 ht1 hle hmul;obtain ⟨wo,rfl⟩:∃ wo:World,wo=wr:=⟨_,rfl⟩;go_wp2;go_loopw [3,21] (fun s3 vK wr=>∃ j:Nat,j≤N∧s3=.int .i64 ((T0+qB x j:Nat))∧vK=.int .i64 j∧wr=wo) (fun _ vK _=>N-(intOf vK).toNat)
    (case atStart=>exact ⟨0,ay,rfl,rfl,rfl⟩);case round=>
     obtain ⟨j,hj,rfl,rfl,eD⟩:=hrel;subst eD;by_cases hjl:j<N
     · have hs:=Zx x j;have hle:=Pj x j;have Ei:=aj (x9.out j ay);obtain ⟨R0,hR0⟩:=aC (qB x j);rw [←hR0] at hs hle ⊢;have HS:=aj hs;clear hs hR0;obtain ⟨S0,hS0⟩:=aC (T0+R0);have hsb:S0≤2000:=ay;have vL:=aj hS0;rw [←hS0];clear hS0;cases hb:x.testBit j
       · rw [hb] at Ei HS;clear hb;(go_wp2_with (go_at_call 88;refine (Ei.out _).mono ?_;rintro e w' ⟨rfl,hw⟩;subst hw));go_roundw
         (case rel=>exact ⟨j+1,ay,by rw [HS.out,vL.out];simp,aN,trivial⟩);case measure=>simp [intOf];omega
       · rw [hb] at Ei HS;clear hb;(go_wp2_with (go_at_call 88;refine (Ei.out _).mono ?_;rintro e w' ⟨rfl,hw⟩;subst hw));go_roundw
         (case rel=>exact ⟨j+1,ay,by rw [HS.out,vL.out];simp;omega,aN,trivial⟩);case measure=>simp [intOf];omega
     · obtain rfl:j=N:=ay;have h1:=HT1.out;rw [←h1];clear h1;go_wp2;go_roundw
       (case rel=>exact ⟨i+1,ay,rfl,aN,trivial⟩);case measure=>simp [intOf];omega
  {obtain rfl:i=N:=ay;obtain ⟨T0,hT0⟩:=aC (tot nx i i);rw [←hT0];have HT0:=aj hT0;clear hT0;go_wp2;go_ret;exact ⟨(by show Ending.returned (.int .i64 ((T0:Nat)))=_;rw [HT0.out]),rfl⟩}
theorem Pk {B:Nat} {Y:Nat→Prop} {w:World} {p lb cl nb cn:Nat} {bH:List Value} {ls:List Lb} {nx:List Nat} {last:Nat}
  (h:cK B Y w p lb cl nb cn bH ls nx last):Calls prog 58 #[.pointer (some ⟨p,0,none⟩)] w fun e w'=>e=.returned (.int .i64 ls.length)∧w'=w:=by have c0:=h.blk.cell (i:=0) rfl;have hq:=(dS h.fP).2.2.1;have hq2:=(dS h.fP).2.2.2.1;obtain ⟨N,hN⟩:=aC ls.length;rw [←hN] at c0 hq ⊢;clear h hN;go_enter func58,ntmps58;go_wp2;go_ret;exact ⟨rfl,rfl⟩
theorem Zz {B:Nat} {Y:Nat→Prop} {w:World} {p lb cl nb cn:Nat} {bH:List Value} {ls:List Lb} {nx:List Nat} {last:Nat} (i:Int)
  (h:cK B Y w p lb cl nb cn bH ls nx last) (hn:ls.length≤32) (hl:last<2 ^ 32):Calls prog 59 #[.pointer (some ⟨p,0,none⟩),.int .i64 i] w fun e w'=>e=.returned (.bool (decide (0≤i) && decide (i<ls.length) && last.testBit i.toNat))∧w'=w:=by have c2:=h.blk.cell (i:=2) rfl;have PL:=aj (Pk h);by_cases h0:0≤i;{obtain ⟨k,rfl⟩:=Int.eq_ofNat_of_zero_le h0;by_cases h1:k<ls.length;{have HA:=aj fun w=>D9 last k hl ay w;rw [decide_eq_true h0,decide_eq_true (show ((k:Nat):Int)<(ls.length:Int) by omega)];simp only [Int.toNat_natCast,Bool.true_and];obtain ⟨N,hN⟩:=aC ls.length;obtain ⟨b,hb⟩:=aC (last.testBit k);rw [←hN] at PL h1;rw [←hb] at HA ⊢;unfold bN at c2 HA;clear h hN hb hn;go_enter func59,ntmps59;(go_wp2_with (first | (go_at_call 58;refine PL.out.mono ?_;rintro e w' ⟨rfl,hw⟩;subst hw) | (go_at_call 88;refine (HA.out _).mono ?_;rintro e w' ⟨rfl,hw⟩;subst hw)));go_ret;exact ⟨rfl,rfl⟩};{rw [decide_eq_true h0,decide_eq_false (show ¬ ((k:Nat):Int)<(ls.length:Int) by omega)];obtain ⟨N,hN⟩:=aC ls.length;rw [←hN] at PL h1;clear h hN hn;go_enter func59,ntmps59;(go_wp2_with (go_at_call 58;refine PL.out.mono ?_;rintro e w' ⟨rfl,hw⟩;subst hw));go_ret;exact ⟨rfl,rfl⟩}};{rw [decide_eq_false h0];have h1:i<0:=ay;clear h h0;go_enter func59,ntmps59;go_wp2;go_ret;exact ⟨rfl,rfl⟩}
end Go.Proofs.YtockbaekcbeenaaGreatDoor
