/-GRg5-/
import Derived.Shelf.SlGeneric
import Derived.Shelf.SlSortCmp.NoneTotal
import Derived.Shelf.SlicesE.Clone
import Derived.Ground.SlsfProg
import Derived.Ground.SlgnProg
import Derived.Shelf.SlSortCmp.InsertionK
import Derived.Test.YtjaebndajhppgaaGreatDoorProg
import Derived.Test.YtjaebndajhppgaaGreatDoorMnGRg4
import Derived.Test.YtjaebndajhppgaaGreatDoorMnGRg3
import Derived.Laws.OwnMore
set_option linter.unusedVariables false
set_option linter.unusedSimpArgs false
set_option maxRecDepth 100000
set_option maxHeartbeats 1000000
namespace Go.Proofs
open Go.Shelf
def Tryz.sortIDs_ren:Go.Shelf.Ren:=⟨fun | 6=>80 | 15=>118 | 14=>117 | 28=>167 | 29=>168 | 20=>159 | 21=>160 | 22=>161 | 23=>162 | 24=>163 | 25=>164 | 26=>165 | 27=>166 | 46=>198 | 47=>199 | 48=>200 | 49=>201 | 50=>202 | 57=>229 | n=>n,fun | 22=>79 | 24=>77 | 25=>135 | 3=>3 | 39=>57 | 0=>0 | 53=>230 | 55=>232 | 4=>4 | 46=>224 | 45=>223 | 50=>123 | 5=>5 | 9=>9 | 66=>261 | 70=>265 | 76=>278 | 77=>256 | n=>n,fun | n=>n⟩
theorem Tryz.sortIDs:Go.Proofs.SlLaysF0.n6 Tryz.prog Tryz.sortIDs_ren:={
 mixed:=by kernel_rfl
 f6:=⟨Tryz.f80.name,by decide,Tryz.func80.trans (congrArg some (by kernel_rfl))⟩
 f14:=⟨Tryz.f117.name,by decide,Tryz.func117.trans (congrArg some (by kernel_rfl))⟩
 f15:=Tryz.func118.trans (congrArg some (by kernel_rfl))
 f20:=⟨Tryz.f159.name,by decide,Tryz.func159.trans (congrArg some (by kernel_rfl))⟩
 f21:=⟨Tryz.f160.name,by decide,Tryz.func160.trans (congrArg some (by kernel_rfl))⟩
 f22:=⟨Tryz.f161.name,by decide,Tryz.func161.trans (congrArg some (by kernel_rfl))⟩
 f23:=⟨Tryz.f162.name,by decide,Tryz.func162.trans (congrArg some (by kernel_rfl))⟩
 f24:=⟨Tryz.f163.name,by decide,Tryz.func163.trans (congrArg some (by kernel_rfl))⟩
 f25:=⟨Tryz.f164.name,by decide,Tryz.func164.trans (congrArg some (by kernel_rfl))⟩
 f26:=⟨Tryz.f165.name,by decide,Tryz.func165.trans (congrArg some (by kernel_rfl))⟩
 f27:=⟨Tryz.f166.name,by decide,Tryz.func166.trans (congrArg some (by kernel_rfl))⟩
 f28:=Tryz.func167.trans (congrArg some (by kernel_rfl))
 f29:=Tryz.func168.trans (congrArg some (by kernel_rfl))
 f46:=⟨Tryz.f198.name,by decide,Tryz.func198.trans (congrArg some (by kernel_rfl))⟩
 f47:=Tryz.func199.trans (congrArg some (by kernel_rfl))
 f48:=Tryz.func200.trans (congrArg some (by kernel_rfl))
 f49:=⟨Tryz.f201.name,by decide,Tryz.func201.trans (congrArg some (by kernel_rfl))⟩
 f50:=⟨Tryz.f202.name,by decide,Tryz.func202.trans (congrArg some (by kernel_rfl))⟩
 f57:=⟨Tryz.f229.name,by decide,Tryz.func229.trans (congrArg some (by kernel_rfl))⟩
 t0:=Tryz.underlying0
 a0:=Tryz.isAgg0
 z0:=Tryz.sizeOf0
 v0:=Tryz.zeroValue0
 t3:=Tryz.underlying3
 a3:=Tryz.isAgg3
 z3:=Tryz.sizeOf3
 v3:=Tryz.zeroValue3
 t4:=Tryz.underlying4
 a4:=Tryz.isAgg4
 z4:=Tryz.sizeOf4
 v4:=Tryz.zeroValue4
 t5:=Tryz.underlying5
 a5:=Tryz.isAgg5
 z5:=Tryz.sizeOf5
 v5:=Tryz.zeroValue5
 t9:=Tryz.underlying9
 a9:=Tryz.isAgg9
 z9:=Tryz.sizeOf9
 v9:=Tryz.zeroValue9
 t22:=Tryz.underlying79
 a22:=Tryz.isAgg79
 z22:=Tryz.sizeOf79
 v22:=Tryz.zeroValue79
 t25:=Tryz.underlying135
 a25:=Tryz.isAgg135
 z25:=Tryz.sizeOf135
 v25:=Tryz.zeroValue135
 t39:=Tryz.underlying57
 a39:=Tryz.isAgg57
 z39:=Tryz.sizeOf57
 v39:=Tryz.zeroValue57
 t45:=Tryz.underlying223
 a45:=Tryz.isAgg223
 z45:=Tryz.sizeOf223
 v45:=Tryz.zeroValue223
 t46:=Tryz.underlying224
 a46:=Tryz.isAgg224
 z46:=Tryz.sizeOf224
 v46:=Tryz.zeroValue224
 t50:=Tryz.underlying123
 a50:=Tryz.isAgg123
 z50:=Tryz.sizeOf123
 v50:=Tryz.zeroValue123
 t53:=Tryz.underlying230
 a53:=Tryz.isAgg230
 z53:=Tryz.sizeOf230
 v53:=Tryz.zeroValue230
 t55:=Tryz.underlying232
 a55:=Tryz.isAgg232
 z55:=Tryz.sizeOf232
 v55:=Tryz.zeroValue232
 t66:=Tryz.underlying261
 a66:=Tryz.isAgg261
 z66:=Tryz.sizeOf261
 v66:=Tryz.zeroValue261
 t70:=Tryz.underlying265
 a70:=Tryz.isAgg265
 z70:=Tryz.sizeOf265
 v70:=Tryz.zeroValue265
 t76:=Tryz.underlying278
 a76:=Tryz.isAgg278
 z76:=Tryz.sizeOf278
 v76:=Tryz.zeroValue278
 t77:=Tryz.underlying256
 a77:=Tryz.isAgg256
 z77:=Tryz.sizeOf256
 v77:=Tryz.zeroValue256 }
def Tryz.sortTerms_ren:Go.Shelf.Ren:=⟨fun | 6=>127 | 15=>118 | 14=>176 | 28=>167 | 29=>168 | 20=>215 | 21=>216 | 22=>217 | 23=>218 | 24=>219 | 25=>220 | 26=>221 | 27=>222 | 46=>244 | 47=>199 | 48=>200 | 49=>245 | 50=>246 | 57=>259 | n=>n,fun | 22=>62 | 24=>61 | 25=>64 | 3=>3 | 39=>57 | 0=>0 | 53=>230 | 55=>232 | 4=>4 | 46=>224 | 45=>223 | 50=>123 | 5=>5 | 9=>9 | 66=>261 | 70=>265 | 76=>278 | 77=>256 | n=>n,fun | n=>n⟩
theorem Tryz.sortTerms:Go.Proofs.SlLaysF0.n6 Tryz.prog Tryz.sortTerms_ren:={
 mixed:=by kernel_rfl
 f6:=⟨Tryz.f127.name,by decide,Tryz.func127.trans (congrArg some (by kernel_rfl))⟩
 f14:=⟨Tryz.f176.name,by decide,Tryz.func176.trans (congrArg some (by kernel_rfl))⟩
 f15:=Tryz.func118.trans (congrArg some (by kernel_rfl))
 f20:=⟨Tryz.f215.name,by decide,Tryz.func215.trans (congrArg some (by kernel_rfl))⟩
 f21:=⟨Tryz.f216.name,by decide,Tryz.func216.trans (congrArg some (by kernel_rfl))⟩
 f22:=⟨Tryz.f217.name,by decide,Tryz.func217.trans (congrArg some (by kernel_rfl))⟩
 f23:=⟨Tryz.f218.name,by decide,Tryz.func218.trans (congrArg some (by kernel_rfl))⟩
 f24:=⟨Tryz.f219.name,by decide,Tryz.func219.trans (congrArg some (by kernel_rfl))⟩
 f25:=⟨Tryz.f220.name,by decide,Tryz.func220.trans (congrArg some (by kernel_rfl))⟩
 f26:=⟨Tryz.f221.name,by decide,Tryz.func221.trans (congrArg some (by kernel_rfl))⟩
 f27:=⟨Tryz.f222.name,by decide,Tryz.func222.trans (congrArg some (by kernel_rfl))⟩
 f28:=Tryz.func167.trans (congrArg some (by kernel_rfl))
 f29:=Tryz.func168.trans (congrArg some (by kernel_rfl))
 f46:=⟨Tryz.f244.name,by decide,Tryz.func244.trans (congrArg some (by kernel_rfl))⟩
 f47:=Tryz.func199.trans (congrArg some (by kernel_rfl))
 f48:=Tryz.func200.trans (congrArg some (by kernel_rfl))
 f49:=⟨Tryz.f245.name,by decide,Tryz.func245.trans (congrArg some (by kernel_rfl))⟩
 f50:=⟨Tryz.f246.name,by decide,Tryz.func246.trans (congrArg some (by kernel_rfl))⟩
 f57:=⟨Tryz.f259.name,by decide,Tryz.func259.trans (congrArg some (by kernel_rfl))⟩
 t0:=Tryz.underlying0
 a0:=Tryz.isAgg0
 z0:=Tryz.sizeOf0
 v0:=Tryz.zeroValue0
 t3:=Tryz.underlying3
 a3:=Tryz.isAgg3
 z3:=Tryz.sizeOf3
 v3:=Tryz.zeroValue3
 t4:=Tryz.underlying4
 a4:=Tryz.isAgg4
 z4:=Tryz.sizeOf4
 v4:=Tryz.zeroValue4
 t5:=Tryz.underlying5
 a5:=Tryz.isAgg5
 z5:=Tryz.sizeOf5
 v5:=Tryz.zeroValue5
 t9:=Tryz.underlying9
 a9:=Tryz.isAgg9
 z9:=Tryz.sizeOf9
 v9:=Tryz.zeroValue9
 t22:=Tryz.underlying62
 a22:=Tryz.isAgg62
 z22:=Tryz.sizeOf62
 v22:=Tryz.zeroValue62
 t25:=Tryz.underlying64
 a25:=Tryz.isAgg64
 z25:=Tryz.sizeOf64
 v25:=Tryz.zeroValue64
 t39:=Tryz.underlying57
 a39:=Tryz.isAgg57
 z39:=Tryz.sizeOf57
 v39:=Tryz.zeroValue57
 t45:=Tryz.underlying223
 a45:=Tryz.isAgg223
 z45:=Tryz.sizeOf223
 v45:=Tryz.zeroValue223
 t46:=Tryz.underlying224
 a46:=Tryz.isAgg224
 z46:=Tryz.sizeOf224
 v46:=Tryz.zeroValue224
 t50:=Tryz.underlying123
 a50:=Tryz.isAgg123
 z50:=Tryz.sizeOf123
 v50:=Tryz.zeroValue123
 t53:=Tryz.underlying230
 a53:=Tryz.isAgg230
 z53:=Tryz.sizeOf230
 v53:=Tryz.zeroValue230
 t55:=Tryz.underlying232
 a55:=Tryz.isAgg232
 z55:=Tryz.sizeOf232
 v55:=Tryz.zeroValue232
 t66:=Tryz.underlying261
 a66:=Tryz.isAgg261
 z66:=Tryz.sizeOf261
 v66:=Tryz.zeroValue261
 t70:=Tryz.underlying265
 a70:=Tryz.isAgg265
 z70:=Tryz.sizeOf265
 v70:=Tryz.zeroValue265
 t76:=Tryz.underlying278
 a76:=Tryz.isAgg278
 z76:=Tryz.sizeOf278
 v76:=Tryz.zeroValue278
 t77:=Tryz.underlying256
 a77:=Tryz.isAgg256
 z77:=Tryz.sizeOf256
 v77:=Tryz.zeroValue256 }
def Tryz.cloneIDs_ren:Go.Shelf.Ren:=⟨fun | 41=>180 | n=>n,fun | 22=>79 | 23=>77 | 4=>4 | n=>n,fun | n=>n⟩
theorem Tryz.cloneIDs:Go.Proofs.SlLaysE0.n41 Tryz.prog Tryz.cloneIDs_ren:={
 mixed:=by kernel_rfl
 f41:=⟨Tryz.f180.name,by decide,Tryz.func180.trans (congrArg some (by kernel_rfl))⟩
 t4:=Tryz.underlying4
 a4:=Tryz.isAgg4
 z4:=Tryz.sizeOf4
 v4:=Tryz.zeroValue4
 t22:=Tryz.underlying79
 a22:=Tryz.isAgg79
 z22:=Tryz.sizeOf79
 v22:=Tryz.zeroValue79 }
def Tryz.cloneTerms_ren:Go.Shelf.Ren:=⟨fun | 41=>72 | n=>n,fun | 22=>62 | 23=>61 | 4=>4 | n=>n,fun | n=>n⟩
theorem Tryz.cloneTerms:Go.Proofs.SlLaysE0.n41 Tryz.prog Tryz.cloneTerms_ren:={
 mixed:=by kernel_rfl
 f41:=⟨Tryz.f72.name,by decide,Tryz.func72.trans (congrArg some (by kernel_rfl))⟩
 t4:=Tryz.underlying4
 a4:=Tryz.isAgg4
 z4:=Tryz.sizeOf4
 v4:=Tryz.zeroValue4
 t22:=Tryz.underlying62
 a22:=Tryz.isAgg62
 z22:=Tryz.sizeOf62
 v22:=Tryz.zeroValue62 }
def Tryz.cloneTris_ren:Go.Shelf.Ren:=⟨fun | 41=>76 | n=>n,fun | 22=>39 | 23=>67 | 4=>4 | n=>n,fun | n=>n⟩
theorem Tryz.cloneTris:Go.Proofs.SlLaysE0.n41 Tryz.prog Tryz.cloneTris_ren:={
 mixed:=by kernel_rfl
 f41:=⟨Tryz.f76.name,by decide,Tryz.func76.trans (congrArg some (by kernel_rfl))⟩
 t4:=Tryz.underlying4
 a4:=Tryz.isAgg4
 z4:=Tryz.sizeOf4
 v4:=Tryz.zeroValue4
 t22:=Tryz.underlying39
 a22:=Tryz.isAgg39
 z22:=Tryz.sizeOf39
 v22:=Tryz.zeroValue39 }
def Tryz.insShown_ren:Go.Shelf.Ren:=⟨fun | 20=>187 | n=>n,fun | 24=>158 | 22=>155 | 3=>3 | 25=>161 | 4=>4 | 0=>0 | n=>n,fun | n=>n⟩
theorem Tryz.insShown:Go.Proofs.SlLaysF0.n20 Tryz.prog Tryz.insShown_ren:={
 mixed:=by kernel_rfl
 f20:=⟨Tryz.f187.name,by decide,Tryz.func187.trans (congrArg some (by kernel_rfl))⟩
 t0:=Tryz.underlying0
 a0:=Tryz.isAgg0
 z0:=Tryz.sizeOf0
 v0:=Tryz.zeroValue0
 t3:=Tryz.underlying3
 a3:=Tryz.isAgg3
 z3:=Tryz.sizeOf3
 v3:=Tryz.zeroValue3
 t4:=Tryz.underlying4
 a4:=Tryz.isAgg4
 z4:=Tryz.sizeOf4
 v4:=Tryz.zeroValue4
 t22:=Tryz.underlying155
 a22:=Tryz.isAgg155
 z22:=Tryz.sizeOf155
 v22:=Tryz.zeroValue155
 t25:=Tryz.underlying161
 a25:=Tryz.isAgg161
 z25:=Tryz.sizeOf161
 v25:=Tryz.zeroValue161 }
end Go.Proofs
namespace Go.Proofs.YtjaebndajhppgaaGreatDoor
open Go.ChangeShapes Go.WideShapes Go.ChangeAt Go.RowKit Go.Sort
def IdsAt (W:World) (v:Value) (L:List Rg.T):Prop:=∃ (a:Option Addr) (cap:Nat),v=.slice a L.length cap∧L.length≤cap∧cap≤maxLen∧(a=none→cap=0) ∧
 (L.length=0∨∃ b off,a=some ⟨b,off,none⟩∧∀ i (h:i<L.length) c,c<3→W.cell? ⟨b,off+i*3+c,none⟩=some (.int .i64 (Rg.at' L[i] c)))
theorem IdsAt.keep {W W':World} {v:Value} {L:List Rg.T} (h:IdsAt W v L) (hb:Below W.heap.size W W'):IdsAt W' v L:=by
 obtain ⟨a,cap,h1,h2,h3,h4,h5⟩:=h
 refine ⟨a,cap,h1,h2,h3,h4,?_⟩
 rcases h5 with h5 | ⟨b,off,e,h5⟩
 · exact Or.inl h5
 · exact Or.inr ⟨b,off,e,fun i hi c hc=>below_keep hb (h5 i hi c hc)⟩
theorem IdsAt.nil (W:World):IdsAt W (.slice none 0 0) []:=⟨none,0,rfl,Nat.le_refl _,by unfold maxLen;omega,fun _=>rfl,Or.inl rfl⟩
theorem IdsAt.open {W:World} {v:Value} {L:List Rg.T} (h:IdsAt W v L):∃ a cap,v=.slice a L.length cap∧L.length≤cap∧cap≤maxLen∧(a=none→cap=0):=by
 obtain ⟨a,cap,h1,h2,h3,h4,_⟩:=h
 exact ⟨a,cap,h1,h2,h3,h4⟩
theorem IdsAt.get {W:World} {a:Option Addr} {n cap:Nat} {L:List Rg.T} (h:IdsAt W (.slice a n cap) L) {i:Nat} (hi:i<L.length):∃ b off,a=some ⟨b,off,none⟩∧∀ i (h:i<L.length) c,c<3→W.cell? ⟨b,off+i*3+c,none⟩=some (.int .i64 (Rg.at' L[i] c)):=by
 obtain ⟨a',cap',e,h2,h3,h4,h5⟩:=h
 simp only [Value.slice.injEq] at e
 obtain ⟨rfl,rfl,rfl⟩:=e
 rcases h5 with h5 | h5
 · omega
 · exact h5
open Go.Sort in
theorem sortW_block {w:World} {blk off n k:Nat} {d:Array Rg.T} {os:Array Obj} (hk:k<w.heap.size) (hne:k≠blk):(sortWorldK tl 3 w blk off n d os).heap[k]?=w.heap[k]?:=by
 unfold sortWorldK
 rw [Go.Sort.heap_grow_old _ _ (by show k<(putRow id (Go.Sort.ahead w n) blk off _).heap.size;simp [putRow,mapBlock,Go.Sort.ahead];exact hk)]
 show (putRow id (Go.Sort.ahead w n) blk off _).heap[k]?=_
 simp only [putRow,mapBlock,Array.getElem?_modify]
 rw [if_neg (fun e=>hne e.symm)];rfl
theorem sortW_below {B:Nat} {w0 w:World} {blk off n:Nat} {d:Array Rg.T} {os:Array Obj} (h:Below B w0 w) (hB:B≤blk) (hw:B≤w.heap.size):Below B w0 (sortWorldK tl 3 w blk off n d os):=by
 have hz:w.heap.size≤(sortWorldK tl 3 w blk off n d os).heap.size:=size_sortWorldK_c tl 3 w blk off n d os
 exact ⟨h.os,h.tape,h.output,Nat.le_trans h.size hz,fun k hk=>by rw [sortW_block (by omega) (by omega)];exact h.block k hk⟩
theorem tl_at (t:Rg.T) (c:Nat) (hc:c<3):(tl t)[c]! = .int .i64 (Rg.at' t c):=by
 rcases Rg.c3 hc with rfl | rfl | rfl <;> rfl
theorem arr_at (l:List Rg.T) (i:Nat) (h:i<l.length):l.toArray[i]! = l[i]:=by
 rw [getElem!_pos l.toArray i (by simpa using h)];simp
def fl (l:List Rg.T):List Value:=(flatK tl 3 l.toArray).toList
theorem fl_length (l:List Rg.T):(fl l).length=l.length*3:=by unfold fl;simp
theorem fl_get {l:List Rg.T} {j:Nat} {u:Value} (h:(fl l)[j]?=some u):∃ (hi:j / 3<l.length),u=.int .i64 (Rg.at' l[j / 3] (j % 3)):=by
 have hj:j<l.length*3:=by rw [←fl_length];exact (List.getElem?_eq_some_iff.1 h).1
 have hi:j / 3<l.length:=by omega
 refine ⟨hi,?_⟩
 have h2:=get_flatK tl 3 l.toArray j (by simpa using hj)
 have h3:(flatK tl 3 l.toArray)[j]! = u:=by
  unfold fl at h
  rw [Array.getElem?_toList] at h
  rw [getElem!_def,h]
 rw [h3,arr_at l _ hi,tl_at _ _ (Nat.mod_lt _ (by decide))] at h2
 exact h2
theorem fl_some (l:List Rg.T) (i c:Nat) (hi:i<l.length) (hc:c<3):(fl l)[i*3+c]?=some (.int .i64 (Rg.at' l[i] c)):=by
 obtain ⟨u,hu⟩:∃ u,(fl l)[i*3+c]?=some u:=⟨_,List.getElem?_eq_getElem (by rw [fl_length];omega)⟩
 obtain ⟨h1,h2⟩:=fl_get hu
 rw [hu,h2]
 have e1:(i*3+c) / 3=i:=by omega
 have e2:(i*3+c) % 3=c:=by omega
 simp only [e1,e2]
theorem fl_one (l:List Rg.T):∀ u∈fl l,u.oneCell'=true:=by
 intro u hu
 obtain ⟨j,hj⟩:=List.getElem?_of_mem hu
 obtain ⟨_,e⟩:=fl_get hj
 rw [e];rfl
theorem holds_own {W:World} {base g cap:Nat} {l:List Rg.T} (h:W.ownsRow base 77 3 (.slice (some ⟨g,0,none⟩) l.length cap) l.length (fl l)):HoldsK tl 3 W g 0 l.toArray:=by
 intro j hj
 have hj':j<l.length*3:=by simpa using hj
 rw [Nat.zero_add]
 refine ⟨?_,h.frozenAt j⟩
 rw [h.cellAt j hj']
 unfold fl
 rw [Array.getElem?_toList,getElem!_pos _ j hj,Array.getElem?_eq_getElem hj];rfl
theorem holds_ids {W:World} {g cap:Nat} {l:List Rg.T} (h:HoldsK tl 3 W g 0 l.toArray) (hc:l.length≤cap) (hm:cap≤maxLen):IdsAt W (.slice (some ⟨g,0,none⟩) l.length cap) l:=by
 refine ⟨some ⟨g,0,none⟩,cap,rfl,hc,hm,(fun h=>by cases h),Or.inr ⟨g,0,rfl,fun i hi c hc=>?_⟩⟩
 have:=(HoldsK.cell h (i:=i) (c:=c) (by simpa using hi) hc).1
 rw [this,arr_at l i hi,tl_at _ _ hc]
theorem swo (c:Nat):Go.Sort.SWO (ltOf (Rg.cf c)) where
 irrefl x:=by simp only [ltOf,Rg.cf,Rg.cmp_neg,decide_eq_false_iff_not];exact Rg.lt_irrefl _
 trans x y z h1 h2:=by simp only [ltOf,Rg.cf,Rg.cmp_neg,decide_eq_true_eq] at *;exact Rg.lt_trans h1 h2
 ntrans x y z h1 h2:=by simp only [ltOf,Rg.cf,Rg.cmp_neg,decide_eq_false_iff_not,Rg.lt] at *;omega
theorem lt_parts (c:Nat) (hc:c<3) (x y:Rg.T) (h1:ltOf (Rg.cf c) x y=false) (h2:ltOf (Rg.cf c) y x=false):x=y:=by
 simp only [ltOf,Rg.cf,Rg.cmp_neg,decide_eq_false_iff_not] at *
 exact Rg.rot_inj hc (Rg.lt_total h1 h2)
theorem sort_any (c g:Nat) (hc:c<3) (cb:Array Value) (blk cap:Nat) (l:List Rg.T) (w:World) (eg:∀ args w,(callFunc g args).run Tryz.prog w=.ok (.enter g args) w) (hl:l.length≤100)
  (hcmp:CmpLays Tryz.prog g cb tl 3 (Rg.cf c) blk 0 l.toArray.size w) (hH:HoldsK tl 3 w blk 0 l.toArray) (hblk:blk<w.heap.size) (hm:l.length≤cap) (hm2:cap≤maxLen) :
  Calls Tryz.prog 80 #[.slice (some ⟨blk,0,none⟩) l.length cap,.func (.func g) #[] cb] w fun e w'=>e=.returned (.tuple #[])∧IdsAt w' (.slice (some ⟨blk,0,none⟩) l.length cap) (Rg.O l c)∧(∀ B w0,Below B w0 w→B≤blk→B≤w.heap.size→Below B w0 w')∧(∀ k,k<w.heap.size→k≠blk→w'.heap[k]?=w.heap[k]?)∧HoldsK tl 3 w' blk 0 (Rg.O l c).toArray:=by
 have h:=AnyQ.slices_SortFunc_total Tryz.sortIDs 3 Tryz.isAgg77 Tryz.sizeOf77 tl (fun _=>rfl) (fun x v hv=>by simp [tl] at hv;rcases hv with rfl | rfl | rfl <;> rfl) (Rg.cf c) (swo c) g cb blk 0 cap l.toArray w eg hcmp hH hblk (by simp;omega) (lt_parts c hc)
 change Calls Tryz.prog 80 _ _ _ at h
 have e0:l.toArray.size=l.length:=by simp
 rw [e0] at h
 refine h.mono ?_
 rintro e w' ⟨rfl,n,os,rfl⟩
 have eO:(l.toArray.toList.mergeSort fun x y=>!(ltOf (Rg.cf c)) y x).toArray=(Rg.O l c).toArray:=rfl
 rw [eO]
 have hO:=holdsK_sortWorldK_c tl 3 w blk 0 l.toArray (Rg.O l c).toArray n os hH hblk (by simp [Rg.O_length])
 refine ⟨rfl,?_,fun B w0 h1 h2 h3=>sortW_below h1 h2 h3,(fun k h1 h2=>sortW_block h1 h2),hO⟩
 rw [←Rg.O_length l c]
 exact holds_ids hO (by rw [Rg.O_length];exact hm) hm2
theorem sort_none (g cap:Nat) (a:Option Addr) (cb:Array Value) (w:World):Calls Tryz.prog 80 #[.slice a 0 cap,.func (.func g) #[] cb] w fun e w'=>e=.returned (.tuple #[])∧w'=w:=by
 have h:=AnyF.slices_SortFunc_none Tryz.sortIDs a cap (.func (.func g) #[] cb) w
 change Calls Tryz.prog 80 _ _ _ at h
 exact h
theorem cmpLays_col (c bc blk n:Nat) (hc:c<3) (w:World) (hb:w.cell? ⟨bc,0,none⟩=some (.int .i64 c)) (hne:bc≠blk):CmpLays Tryz.prog 181 #[.pointer (some ⟨bc,0,none⟩)] tl 3 (Rg.cf c) blk 0 n w:=by
 intro m os dk hdk x y
 have hlt:=lt_of_cell hb
 have hb2:(sortWorldK tl 3 w blk 0 m dk os).cell? ⟨bc,0,none⟩=some (.int .i64 c):=by
  rw [←hb];simp only [World.cell?,sortW_block hlt hne]
 have:=colF_any x y c bc hc (sortWorldK tl 3 w blk 0 m dk os) hb2
 unfold tv at this
 refine this.mono ?_
 rintro e w' ⟨rfl,h1,h2⟩
 exact ⟨rfl,grown_eq h1 h2⟩
theorem cmpLays_cmp (blk n:Nat) (w:World):CmpLays Tryz.prog 81 #[] tl 3 (Rg.cf 0) blk 0 n w:=by
 intro m os dk hdk x y
 have:=rgrcmp_any x y (sortWorldK tl 3 w blk 0 m dk os)
 unfold tv at this
 refine this.mono ?_
 rintro e w' ⟨rfl,h1,h2⟩
 exact ⟨rfl,grown_eq h1 h2⟩
theorem Tryz.rginfo77:(Tryz.prog.info? 77).map (fun i=>(i.zero,i.size,i.bytes))=some (some (.agg #[.int .i64 0,.int .i64 0,.int .i64 0]),3,24):=by kernel_rfl
def OwnIds (w W:World) (a:Option Addr) (l:List Rg.T):Prop:=l.length=0∨∃ g,a=some ⟨g,0,none⟩∧w.heap.size≤g∧g<W.heap.size∧HoldsK tl 3 W g 0 l.toArray
theorem rgclone_any (v0:Value) (l:List Rg.T) (w:World) (h:IdsAt w v0 l) (hl:l.length≤100) :
  Calls Tryz.prog 180 #[v0] w fun e w'=>∃ a cap,e=.returned (.slice a l.length cap)∧l.length≤cap∧cap≤maxLen∧(a=none→cap=0)∧OwnIds w w' a l∧Below w.heap.size w w':=by
 obtain ⟨i0,hi,hz0,hz1,hz2⟩:=info_parts Tryz.rginfo77
 have hx:=h
 obtain ⟨a,cap,rfl,h2,h3,h4,h5⟩:=hx
 cases a with
 | none=>
  have hcap:=h4 rfl
  have h0:l.length=0:=by omega
  have:=AnyE.slices_Clone_nil Tryz.cloneIDs l.length cap w
  change Calls Tryz.prog 180 _ _ _ at this
  refine this.mono ?_
  rintro e w' ⟨rfl,rfl⟩
  exact ⟨none,0,by rw [h0],by omega,by unfold maxLen;omega,fun _=>rfl,Or.inl h0,Below.refl _ _⟩
 | some ad=>
  rcases h5 with h5 | ⟨b,off,e,h5⟩
  · have h0:l=[]:=List.eq_nil_of_length_eq_zero h5
    subst h0
    have he:=fun W=>Go.Lib.run_eql_slice_nil (P:=Tryz.prog) W 79 77 (some ad) 0 cap 0 0 Tryz.underlying79
    simp only [List.length_nil] at *
    clear h h2 h5 hl
    go_enter Tryz.func180,Tryz.ntmps180
    go_wp2_with (at_builtin;refine wpList_append_own _ rfl _ _ 79 rfl w.heap.size 77 i0 _ 3 24 Tryz.underlying79 hi hz0 hz1 hz2 rfl (by decide) _ _ _ rfl (World.ownsRow_made w #[] 0 (Nat.le_refl _) (Nat.zero_le _) (by simp)) ad 0 cap [] rfl ?qc1 ?qc2 ?qc3 ?qc4 ?qc5 ?qc6 ?_)
    case qc1=>rfl
    case qc2=>intro j u hj;simp at hj
    case qc3=>intro u hu;cases hu
    case qc4=>unfold maxLen;omega
    case qc5=>omega
    case qc6=>simp
    intro v' w1 hown hgrow hnil
    have hb:Below w.heap.size w w1:=((Below.refl _ w).alloc (Nat.le_refl _) _).grown hgrow (by simp) (by intro k hk;simp [Value.ownBlock] at hk;omega)
    obtain ⟨a,cp,rfl,k1,k2⟩:∃ a cp,v'=.slice a 0 cp∧0≤cp∧(cp≤maxLen∧(a=none→cp=0)):=by
     rcases hown.2 with ⟨rfl,_⟩ | ⟨g,cp,cur,rfl,hg,hh,hcp,hcm,_⟩
     · exact ⟨none,0,rfl,Nat.le_refl _,by unfold maxLen;omega,fun _=>rfl⟩
     · exact ⟨_,cp,rfl,hcp,hcm,fun h=>by cases h⟩
    have HH:=hid (And.intro k1 k2)
    clear hown hgrow hnil k1 k2
    have HB:=hid hb
    clear hb
    go_wp2
    go_ret
    exact ⟨a,cp,rfl,HH.out.1,HH.out.2.1,HH.out.2.2,Or.inl rfl,HB.out⟩
  · cases e
    have hc:∀ j u,(fl l)[j]?=some u→w.cell? ⟨b,off+j,none⟩=some u:=fun j u hu=>by
     obtain ⟨h1,e⟩:=fl_get hu
     rw [e]
     have:=h5 (j / 3) h1 (j % 3) (Nat.mod_lt _ (by decide))
     rwa [show off+j / 3*3+j % 3=off+j by omega] at this
    have:=AnyE.slices_Clone Tryz.cloneIDs i0 _ 3 24 hi hz0 hz1 hz2 rfl (by decide) Tryz.sizeOf77 b off l.length cap (fl l) w (fl_length l) (by unfold maxLen;omega) (by omega) hc (fl_one l)
    change Calls Tryz.prog 180 _ _ _ at this
    refine this.mono ?_
    rintro e w' ⟨v',rfl,hO,hne,hb⟩
    have hOO:=hO
    rcases hO.2 with ⟨rfl,_⟩ | ⟨g,cp,cur,rfl,hg,hh,hcp,hcm,_⟩
    · exact absurd rfl hne
    · exact ⟨_,cp,rfl,hcp,hcm,(fun h=>by cases h),Or.inr ⟨g,rfl,hg,(hO.lt g rfl).2,holds_own hOO⟩,hb⟩
theorem sort_col (c bc cap:Nat) (a:Option Addr) (l:List Rg.T) (w0 w:World) (hc:c<3) (hl:l.length≤100) (hm:l.length≤cap) (hm2:cap≤maxLen) (ha:a=none→cap=0) (hO:OwnIds w0 w a l) (hb:w.cell? ⟨bc,0,none⟩=some (.int .i64 c)) (hbc:bc<w0.heap.size) :
  Calls Tryz.prog 80 #[.slice a l.length cap,.func (.func 181) #[] #[.pointer (some ⟨bc,0,none⟩)]] w fun e w'=>e=.returned (.tuple #[])∧IdsAt w' (.slice a l.length cap) (Rg.O l c)∧(∀ v1,Below w0.heap.size v1 w→w0.heap.size≤w.heap.size→Below w0.heap.size v1 w'):=by
 rcases hO with h0 | ⟨g,rfl,hg,hgl,hH⟩
 · have h1:l=[]:=List.eq_nil_of_length_eq_zero h0
   subst h1
   refine (sort_none _ _ _ _ _).mono ?_
   rintro e w' ⟨rfl,rfl⟩
   have hO0:Rg.O [] c=[]:=List.eq_nil_of_length_eq_zero (Rg.O_length [] c)
   rw [hO0]
   exact ⟨rfl,⟨a,cap,rfl,hm,hm2,ha,Or.inl rfl⟩,fun _ h _=>h⟩
 · refine (sort_any c 181 hc _ g cap l w (enters_of Tryz.func181 (by kernel_rfl) rfl) hl (cmpLays_col c bc g l.toArray.size hc w hb (by omega)) hH hgl hm hm2).mono ?_
   rintro e w' ⟨rfl,h1,h2,h3⟩
   exact ⟨rfl,h1,fun v1 h hw=>h2 _ v1 h hg hw⟩
def ncells (R:List Nat) (i n:Nat):List Value:=(List.range n).map fun t=>.int .i64 ((if t<i then R.getD t 0 else 0:Nat):Int)
theorem ncells_get (R:List Nat) (i n t:Nat) (h:t<n):(ncells R i n)[t]?=some (.int .i64 ((if t<i then R.getD t 0 else 0:Nat):Int)):=by
 unfold ncells;rw [List.getElem?_map,List.getElem?_range h];rfl
theorem ncells_zero (R:List Nat) (n:Nat):(madeCells #[.int .i64 0] n).toList=ncells R 0 n:=by
 apply List.ext_getElem?
 intro t
 simp only [madeCells,Array.toList_map,Array.toList_range,List.getElem?_map,ncells]
 by_cases ht:t<n
 · rw [List.getElem?_range ht];simp [Nat.mod_one]
 · have e:(List.range n)[t]?=none:=by simp;omega
   rw [e];simp
theorem ncells_set (R:List Nat) (i n:Nat) (h:i<n):(ncells R i n).set i (.int .i64 (R.getD i 0:Nat))=ncells R (i+1) n:=by
 apply List.ext_getElem?
 intro t
 rw [List.getElem?_set]
 have hl:(ncells R i n).length=n:=by simp [ncells]
 by_cases ht:t<n
 · rw [ncells_get _ _ _ _ ht,ncells_get _ _ _ _ ht,hl]
   split
   · rename_i h1;subst h1;simp [h]
   · rename_i h1
     congr 3
     have:(t<i)=(t<i+1):=by rw [eq_iff_iff];omega
     simp only [this]
 · have e:∀ i,(ncells R i n)[t]?=none:=fun i=>by simp [ncells];omega
   rw [e,e,if_neg (by omega)]
theorem ncells_nats {w:World} {b n:Nat} {R:List Nat} {t:TypeId} (h:Blk w b (ncells R n n) t) (hn:n=R.length):NatsAt w (some ⟨b,0,none⟩) R:=by
 refine Or.inr ⟨b,0,rfl,fun i hi=>?_⟩
 rw [Nat.zero_add,h.cell (ncells_get R n n i (by omega)),if_pos (by omega)]
theorem A_get (l:List Rg.T) (c i:Nat) (h:i<(Rg.O l c).length):((Rg.A l c).getD i 0:Nat)=(Rg.at' (Rg.O l c)[i] (Rg.pv c)).toNat:=by
 unfold Rg.A
 rw [List.getD,List.getElem?_map,List.getElem?_eq_getElem h];rfl
theorem one_int (w:World) (c:Int):∃ w1,w1=w.alloc (.cells #[.int .i64 c] 3)∧Hid (w1.cell? ⟨w.heap.size,0,none⟩=some (.int .i64 c))∧Hid (Below w.heap.size w w1)∧w1.heap.size=w.heap.size+1:=
 ⟨_,rfl,by show World.cell? _ _=_;simp [go_sem],(Below.refl _ _).alloc (Nat.le_refl _) _,by simp⟩
theorem colA_any (v0:Value) (c:Nat) (l:List Rg.T) (w:World) (h:IdsAt w v0 l) (hl:l.length≤100) (hok:∀ t∈l,Rg.Ok t) (hc:c<3) :
  Calls Tryz.prog 132 #[v0,.int .i64 c] w fun e w'=>∃ a cap,e=.returned (.slice a l.length cap)∧NatsAt w' a (Rg.A l c)∧Below w.heap.size w w':=by
 obtain ⟨i0,hi,hz0,hz1,hz2⟩:=info_parts Tryz.wdinfo3
 obtain ⟨a0,cap0,hv0,q1,q2,q3⟩:=h.open
 have mk1:∀ W:World,(Instr.makeSlice 48 (.int .i64 ((l.length:Nat):Int)) (.int .i64 ((l.length:Nat):Int))).run Tryz.prog W=_:=fun W=>run_make W 48 3 i0 _ Tryz.underlying48 hi hz0 .i64 .i64 l.length l.length (by omega) (by omega) (by rw [hz2];omega) (by omega)
 have HI:=hid h
 have HOK:=hid fun t (ht:t∈Rg.O l c)=>hok t ((Rg.O_perm l c).mem_iff.1 ht)
 have AH:=hid fun W=>ahead_any c hc W
 have HOL:=hid (Rg.O_length l c)
 have HAL:=hid (Rg.A_length l c)
 subst hv0
 clear h hok
 go_enter Tryz.func132,Tryz.ntmps132
 go_upto_region 1 with fail
 obtain ⟨w1,hw1,b0,HB,hz⟩:=one_int w c
 rw [←hw1]
 clear hw1
 have CL:=rgclone_any _ l w1 (HI.out.keep HB.out) hl
 go_upto_region 2 with (go_at_call 180;refine CL.mono ?_;rintro e w2 ⟨a1,cap1,rfl,k1,k2,k3,hO2,hb2⟩)
 have hbc:=below_keep hb2 b0.out
 have SC:=sort_col c w.heap.size cap1 a1 l w1 w2 hc hl k1 k2 k3 hO2 hbc (by omega)
 have HB2:=hid hb2
 have hzz:=hb2.size
 clear CL hO2 hb2 k3
 go_upto_region 3 with (go_at_call 80;refine SC.mono ?_;rintro e w3 ⟨rfl,hI3,hB3⟩)
 have HI3:=hid hI3
 have HB3:=hid (hB3 w1 HB2.out hzz)
 have d0:=HB3.out.cell (p:=⟨w.heap.size,0,none⟩) (by show w.heap.size<w1.heap.size;omega)
 rw [b0.out] at d0
 have B0:=hid d0
 have HB4:=hid (below_then HB.out HB3.out)
 clear SC hI3 hB3 hbc d0
 go_wp2
 obtain ⟨n,hn⟩:∃ n,n=l.length:=⟨_,rfl⟩
 rw [←hn] at HI3 hl ⊢
 have HN:=hid hn
 clear hn k1 q1 mk1
 go_loopw [19] (fun s19 wr=>∃ i:Nat,i≤n∧s19=.int .i64 i∧Hid (Below w3.heap.size w3 wr)∧Hid (Blk wr w3.heap.size (ncells (Rg.A l c) i n) 3)) (fun s19 _=>n-(intOf s19).toNat)
 case atStart=>exact ⟨0,by omega,rfl,(Below.refl _ _).alloc (Nat.le_refl _) _,Blk.new' rfl (ncells_zero _ n)⟩
 case round=>
  obtain ⟨i,hin,rfl,HI,BO⟩:=hrel
  by_cases hlt:i<n
  · obtain ⟨b,off,rfl,hx⟩:=(HI3.out.keep HI.out).get (i:=i) (by rw [HOL.out,←HN.out];exact hlt)
    have hio:i<(Rg.O l c).length:=by rw [HOL.out,←HN.out];exact hlt
    obtain ⟨t,ht⟩:∃ t,t=(Rg.O l c)[i]:=⟨_,rfl⟩
    have x0:=hx i hio 0 (by omega)
    have x1:=hx i hio 1 (by omega)
    have x2:=hx i hio 2 (by omega)
    rw [←ht] at x0 x1 x2
    have hpv:=Rg.pv_lt c
    have hAg:=A_get l c i hio
    rw [←ht] at hAg
    have hOK:=HOK.out t (by rw [ht];exact List.getElem_mem _) (Rg.pv c) hpv
    have hAi:(((Rg.A l c).getD i 0:Nat):Int)=Rg.at' t (Rg.pv c):=by omega
    have B1:=below_keep HI.out B0.out
    have hset:=ncells_set (Rg.A l c) i n hlt
    rw [hAi] at hset
    have HSET:=hid hset
    have e0:off+i*3+0=off+i*3:=by omega
    rw [e0] at x0
    have a0:Rg.at' t 0=t.1:=rfl
    have a1:Rg.at' t 1=t.2.1:=rfl
    have a2:Rg.at' t 2=t.2.2:=rfl
    rw [a0] at x0
    rw [a1] at x1
    rw [a2] at x2
    have hltI:(i:Int)<n:=by omega
    have hw3:=HI.out.size
    clear hx ht hAg hAi hset e0 a0 a1 a2
    go_upto_region 7 with fail
    obtain ⟨w4,hw4,HT,HB5⟩:=rgnew3 wr (.int .i64 t.1) (.int .i64 t.2.1) (.int .i64 t.2.2) 77
    rw [←hw4]
    have HT2:=hid (show Blk w4 wr.heap.size (tl t) 77 from HT.out)
    have y0:=HT2.out.cell (tl_get t (Rg.pv c) hpv)
    have B2:=below_keep HB5.out B1
    have BO2:=hid (BO.out.keep HB5.out)
    have f1:=BO2.out.free i
    have c1:=BO2.out.cell (ncells_get (Rg.A l c) i n i hlt)
    have HI2:=hid (below_then HI.out HB5.out)
    clear hw4 HT B1 BO HI x0 x1 x2
    go_wp2_with (go_at_call 114;refine (AH.out _).mono ?_;rintro e w' ⟨rfl,hww⟩;have hw2:=hww.symm;subst hw2)
    go_roundw
    case rel=>
     refine ⟨i+1,by omega,by go_num,HI2.out.setCell (Nat.le_refl _) _,?_⟩
     have:=BO2.out.set i (.int .i64 (Rg.at' t (Rg.pv c)))
     rw [HSET.out] at this
     exact this
    case measure=>simp [intOf];omega
  · obtain rfl:i=n:=by omega
    go_wp2
    go_ret
    refine ⟨some ⟨w3.heap.size,0,none⟩,i,by rw [←HN.out];rfl,ncells_nats BO.out (by rw [HAL.out];exact HN.out),below_then HB4.out HI.out⟩
def okB (t:Rg.T):Bool:=decide (1≤t.1∧t.1≤1000) && decide (1≤t.2.1∧t.2.1≤1000) && decide (1≤t.2.2∧t.2.2≤1000)
theorem okB_iff (t:Rg.T):okB t=true↔Rg.Ok t:=by
 unfold okB Rg.Ok
 simp only [Bool.and_eq_true,decide_eq_true_eq]
 constructor
 · rintro ⟨⟨h1,h2⟩,h3⟩ c hc
   rcases Rg.c3 hc with rfl | rfl | rfl
   · exact h1
   · exact h2
   · exact h3
 · exact fun h=>⟨⟨h 0 (by omega),h 1 (by omega)⟩,h 2 (by omega)⟩
theorem mayB_any (t:Rg.T) (w:World):Calls Tryz.prog 130 #[tv t] w fun e w'=>e=.returned (.bool (okB t))∧Below w.heap.size w w':=by
 have IX:=fun c hc w=>index_ids t c hc w
 unfold tv
 go_enter Tryz.func130,Tryz.ntmps130
 go_upto_region 1 with fail
 obtain ⟨w1,hw1,HX,HB,HD,hz⟩:=ids_box w t
 rw [←hw1]
 clear hw1
 obtain ⟨c0,c1,c2⟩:=ids_cells HX.out
 go_wp2
 go_loopw [6] (fun s6 wr=>∃ i:Nat,i≤3∧s6=.int .i64 i∧wr=w1∧Hid (∀ j,j<i→1≤Rg.at' t j∧Rg.at' t j≤1000)) (fun s6 _=>3-(intOf s6).toNat)
 case atStart=>exact ⟨0,by omega,rfl,rfl,fun j hj=>absurd hj (Nat.not_lt_zero _)⟩
 case round=>
  obtain ⟨i,hi,rfl,hww,HE⟩:=hrel
  subst hww
  by_cases hlt:i<3
  · have ix:=IX i hlt
    have hno:¬ (1≤Rg.at' t i∧Rg.at' t i≤1000)→okB t=false:=fun h=>by
     cases h2:okB t
     · rfl
     · exact absurd ((okB_iff t).1 h2 i hlt) h
    have HNO:=hid hno
    have HXX:=hid (rfl:Rg.at' t i=Rg.at' t i)
    clear hno
    obtain ⟨x,hx⟩:∃ x,x=Rg.at' t i:=⟨_,rfl⟩
    rw [←hx] at ix HNO
    have HX2:=hid hx
    clear hx IX HXX
    by_cases hA:x<1
    · go_wp2
      go_ret
      exact ⟨by rw [HNO.out (by omega)];rfl,HB.out⟩
    · by_cases hB:1000<x
      · go_wp2
        go_ret
        exact ⟨by rw [HNO.out (by omega)];rfl,HB.out⟩
      · go_wp2
        go_roundw
        case rel=>
         refine ⟨i+1,by omega,by go_num,trivial,fun j hj=>?_⟩
         by_cases hji:j<i
         · exact HE.out j hji
         · obtain rfl:j=i:=by omega
           rw [←HX2.out];omega
        case measure=>simp [intOf];omega
  · obtain rfl:i=3:=by omega
    have hok:okB t=true:=(okB_iff t).2 fun c hc=>HE.out c hc
    have HOK:=hid hok
    clear hok
    go_wp2
    go_ret
    exact ⟨by rw [HOK.out];rfl,HB.out⟩
def RMay (l:List Rg.T):Prop:=l.Pairwise Rg.lt∧(∀ t∈l,Rg.Ok t)∧l.length≤100
theorem chain_pair {l:List Rg.T} (h:∀ i (h:i+1<l.length),Rg.lt l[i] l[i+1]):l.Pairwise Rg.lt:=by
 rw [List.pairwise_iff_getElem]
 intro i j hi hj hij
 induction j with
 | zero=>omega
 | succ j ih=>
  by_cases he:i=j
  · subst he;exact h i hj
  · exact Rg.lt_trans (ih (by omega) (by omega)) (h j hj)
theorem fresh_set {B:Nat} {w:World} {P:World→Prop} (h:Fresh B w P) (g o:Nat) (u:Value) (hg:g<B):Fresh B (w.setCell ⟨g,o,none⟩ u) P:=
 fun w'' hw=>h w'' fun k hk hl=>by rw [hw k hk (by simpa using hl),Below.heap_setCell _ _ _ _ (by show k≠g;omega)]
def rcl (pw:Nat→Nat) (k:Nat):List Value:=(List.range 3).map fun c=>if c<k then .pointer (some ⟨pw c,0,none⟩) else .pointer none
theorem rcl_get (pw:Nat→Nat) (k c:Nat) (h:c<3):(rcl pw k)[c]?=some (if c<k then .pointer (some ⟨pw c,0,none⟩) else .pointer none):=by
 unfold rcl;rw [List.getElem?_map,List.getElem?_range h];rfl
theorem rcl_set (pw:Nat→Nat) (k x:Nat) (h:k<3):(rcl pw k).set k (.pointer (some ⟨x,0,none⟩))=rcl (fun c=>if c=k then x else pw c) (k+1):=by
 apply List.ext_getElem?
 intro t
 rw [List.getElem?_set]
 have hl:(rcl pw k).length=3:=by simp [rcl]
 by_cases ht:t<3
 · rw [rcl_get _ _ _ ht,rcl_get _ _ _ ht,hl]
   split
   · rename_i h1;subst h1;simp [h]
   · rename_i h1
     by_cases h2:t<k
     · have h3:¬ t=k:=fun e=>h1 e.symm
       simp only [if_pos h2,if_pos (show t<k+1 by omega),if_neg h3]
     · simp only [if_neg h2,if_neg (show ¬ t<k+1 by omega)]
 · have e:∀ pw k,(rcl pw k)[t]?=none:=fun pw k=>by simp [rcl];omega
   rw [e,e,if_neg (by omega)]
theorem A_may {l:List Rg.T} {c:Nat} (h:∀ t∈l,Rg.Ok t) (hl:l.length≤100):Pm.May ((Rg.A l c).map fun x:Nat=>(x:Int)) (10:Nat):=by
 refine ⟨by omega,by omega,by rw [List.length_map,Rg.A_length];omega,fun i hi=>?_⟩
 rw [List.length_map] at hi
 simp only [List.getD,List.getElem?_map,List.getElem?_eq_getElem hi,Option.map_some,Option.getD_some]
 have:=Rg.A_le (c:=c) h _ (List.getElem_mem hi)
 constructor
 · omega
 · show (((Rg.A l c)[i]:Nat):Int).toNat<2 ^ (10:Int).toNat
   rw [Int.toNat_natCast,show (10:Int).toNat=10 from rfl]
   omega
theorem rnew_any (v0:Value) (l:List Rg.T) (w:World) (h:IdsAt w v0 l) (hlm:l.length≤140737488351232) :
  Calls Tryz.prog 86 #[v0] w fun e w'=>Below w.heap.size w w'∧((RMay l∧∃ p,e=.returned (.tuple #[.pointer (some ⟨p,0,none⟩),.int .i64 0])∧Fresh w.heap.size w' (fun W=>IsRing W p l))∨(¬ RMay l∧e=.returned (.tuple #[.pointer none,.int .i64 1]))):=by
 obtain ⟨a,cap,hv0,q1,q2,q3⟩:=h.open
 have HI:=hid h
 subst hv0
 by_cases hbig:100<l.length
 · clear h
   go_enter Tryz.func86,Tryz.ntmps86
   go_wp2
   go_ret2
   exact ⟨Below.refl _ _,Or.inr ⟨fun h=>by have:=h.2.2;omega,rfl⟩⟩
 · have hl:l.length≤100:=by omega
   clear h hbig
   obtain ⟨n,hn⟩:∃ n,n=l.length:=⟨_,rfl⟩
   have HN:=hid hn
   rw [←hn] at q1 hl hlm ⊢
   clear hn
   go_enter Tryz.func86,Tryz.ntmps86
   go_wp2
   go_loopw [15] (fun s15 wr=>∃ i:Nat,i≤n∧s15=.int .i64 i∧Hid (Below w.heap.size w wr)∧Hid (∀ j (h:j<l.length),j<i→Rg.Ok l[j])∧Hid (∀ j (h:j+1<l.length),j+1<i→Rg.lt l[j] l[j+1])) (fun s15 _=>n-(intOf s15).toNat)
   case atStart=>exact ⟨0,by omega,rfl,Below.refl _ _,(fun j h hj=>absurd hj (Nat.not_lt_zero _)),fun j h hj=>absurd hj (Nat.not_lt_zero _)⟩
   case round=>
    obtain ⟨i,hin,rfl,HB,HO,HL⟩:=hrel
    by_cases hlt:i<n
    · have hil:i<l.length:=by rw [←HN.out];exact hlt
      have hI2:=HI.out.keep HB.out
      rw [←HN.out] at hI2
      obtain ⟨b,off,rfl,hx⟩:=hI2.get (i:=i) hil
      obtain ⟨t,ht⟩:∃ t,t=l[i]:=⟨_,rfl⟩
      have x0:=hx i hil 0 (by omega)
      have x1:=hx i hil 1 (by omega)
      have x2:=hx i hil 2 (by omega)
      rw [←ht] at x0 x1 x2
      have e0:off+i*3+0=off+i*3:=by omega
      rw [e0] at x0
      have a0:Rg.at' t 0=t.1:=rfl
      have a1:Rg.at' t 1=t.2.1:=rfl
      have a2:Rg.at' t 2=t.2.2:=rfl
      rw [a0] at x0
      rw [a1] at x1
      rw [a2] at x2
      have HT:=hid ht
      have HX:=hid hx
      have hw0:=HB.out.size
      have hltI:(i:Int)<n:=by omega
      clear ht hx e0 a0 a1 a2 hI2
      go_upto_region 6 with fail
      obtain ⟨w4,hw4,HT4,HB5⟩:=rgnew3 wr (.int .i64 t.1) (.int .i64 t.2.1) (.int .i64 t.2.2) 77
      rw [←hw4]
      obtain ⟨y0,y1,y2⟩:=ids_cells (show Blk w4 wr.heap.size (tl t) 77 from HT4.out)
      have g0:=fun q:Later w4.heap.size w4=>q.keep y0
      have g1:=fun q:Later w4.heap.size w4=>q.keep y1
      have g2:=fun q:Later w4.heap.size w4=>q.keep y2
      have MB:=hid fun q:Later w4.heap.size w4=>mayB_any t q.it
      unfold tv at MB
      have HB6:=hid (below_then HB.out HB5.out)
      clear hw4 y0 y1 y2 HB x0 x1 x2
      by_cases hok:okB t=true
      · have hokk:=(okB_iff t).1 hok
        rw [hok] at MB
        by_cases hi0:i=0
        · subst hi0
          have hO2:∀ j (h:j<l.length),j<0+1→Rg.Ok l[j]:=fun j h hj=>by
           obtain rfl:j=0:=by omega
           rw [←HT.out];exact hokk
          have HO2:=hid hO2
          clear hO2 hok hokk
          refine wp_region_later w4.heap.size (by kernel_rfl) (by kernel_rfl) ?_
          repeat (go_big_quiet_step ((go_at_call 130;with_reducible exact Later.call (Nat.le_refl _) (MB.out _))))
          refine wpQuiet_nil ?_
          rintro w5 ⟨q,hq5⟩
          have hb5:Below w4.heap.size w4 w5:=by rw [hq5];exact q.low
          have HB7:=hid (below_then HB6.out hb5)
          clear hq5 q g0 g1 g2 hb5
          go_wp2
          go_roundw
          case rel=>exact ⟨1,by omega,by go_num,HB7.out,HO2.out,fun j h hj=>by omega⟩
          case measure=>simp [intOf];omega
        · have hil1:i-1<l.length:=by omega
          obtain ⟨b',off',hbe,hx'⟩:=((HI.out.keep HB6.out)).get (i:=i) hil
          cases hbe
          obtain ⟨s,hs⟩:∃ s,s=l[i-1]:=⟨_,rfl⟩
          have k0:=hx' (i-1) hil1 0 (by omega)
          have k1:=hx' (i-1) hil1 1 (by omega)
          have k2:=hx' (i-1) hil1 2 (by omega)
          rw [←hs] at k0 k1 k2
          have a0:Rg.at' s 0=s.1:=rfl
          have a1:Rg.at' s 1=s.2.1:=rfl
          have a2:Rg.at' s 2=s.2.2:=rfl
          rw [a0] at k0
          rw [a1] at k1
          rw [a2] at k2
          obtain ⟨i',hi'⟩:∃ i',i=i'+1:=⟨i-1,by omega⟩
          subst hi'
          simp only [Nat.add_sub_cancel] at hs k0 k1 k2 hil1
          rw [Nat.add_zero] at k0
          have g3:=fun q:Later w4.heap.size w4=>q.keep k0
          have g4:=fun q:Later w4.heap.size w4=>q.keep k1
          have g5:=fun q:Later w4.heap.size w4=>q.keep k2
          have e1:((i'+1:Nat):Int)-1=i':=by omega
          have CM:=hid fun q:Later w4.heap.size w4=>(rgrcmp_any s t q.it).mono fun e w' h=>(⟨h.1,h.2.1⟩:e=.returned (.int .i64 (Rg.cmp s t))∧Below q.it.heap.size q.it w')
          unfold tv at CM
          obtain ⟨r,hr⟩:∃ r,r=Rg.cmp s t:=⟨_,rfl⟩
          rw [←hr] at CM
          have HSL:=hid hs
          have HI1:=hid hil1
          by_cases hneg:r<0
          · have hst:Rg.lt s t:=(Rg.cmp_neg s t).1 (by omega)
            have hO2:∀ j (h:j<l.length),j<i'+1+1→Rg.Ok l[j]:=fun j h hj=>by
             by_cases hji:j<i'+1
             · exact HO.out j h hji
             · obtain rfl:j=i'+1:=by omega
               rw [←HT.out];exact hokk
            have hL2:∀ j (h:j+1<l.length),j+1<i'+1+1→Rg.lt l[j] l[j+1]:=fun j h hj=>by
             by_cases hji:j+1<i'+1
             · exact HL.out j h hji
             · obtain rfl:j=i':=by omega
               rw [←HT.out,←HSL.out];exact hst
            have HO2:=hid hO2
            have HL2:=hid hL2
            clear hO2 hL2 hok hokk hr hs hst hx' k0 k1 k2 a0 a1 a2 hil1
            refine wp_region_later w4.heap.size (by kernel_rfl) (by kernel_rfl) ?_
            repeat (go_big_quiet_step (first | (go_at_call 130;with_reducible exact Later.call (Nat.le_refl _) (MB.out _)) | (go_at_call 81;with_reducible exact Later.call (Nat.le_refl _) (CM.out _))))
            refine wpQuiet_nil ?_
            rintro w5 ⟨q,hq5⟩
            have hb5:Below w4.heap.size w4 w5:=by rw [hq5];exact q.low
            have HB7:=hid (below_then HB6.out hb5)
            clear hq5 q g0 g1 g2 g3 g4 g5 hb5
            go_wp2
            go_roundw
            case rel=>exact ⟨i'+1+1,by omega,by go_num,HB7.out,HO2.out,HL2.out⟩
            case measure=>simp [intOf];omega
          · have hno:¬ RMay l:=fun h=>by
             have h1:=List.pairwise_iff_getElem.1 h.1 i' (i'+1) hil1 hil (by omega)
             rw [←hs,←HT.out] at h1
             exact hneg (by rw [hr];exact (Rg.cmp_neg s t).2 h1)
            have HNO:=hid hno
            clear hok hokk hr hs hx' k0 k1 k2 a0 a1 a2 hno hil1
            refine wp_region_later w4.heap.size (by kernel_rfl) (by kernel_rfl) ?_
            repeat (go_big_quiet_step (first | (go_at_call 130;with_reducible exact Later.call (Nat.le_refl _) (MB.out _)) | (go_at_call 81;with_reducible exact Later.call (Nat.le_refl _) (CM.out _))))
            refine wpQuiet_nil ?_
            rintro w5 ⟨q,hq5⟩
            have hb5:Below w4.heap.size w4 w5:=by rw [hq5];exact q.low
            have HB7:=hid (below_then HB6.out hb5)
            clear hq5 q g0 g1 g2 g3 g4 g5 hb5
            go_wp2
            go_ret2
            exact ⟨HB7.out,Or.inr ⟨HNO.out,rfl⟩⟩
      · have hno:¬ RMay l:=fun h=>hok ((okB_iff t).2 (h.2.1 t (by rw [HT.out];exact List.getElem_mem _)))
        have hf:okB t=false:=by cases h:okB t;rfl;exact absurd h hok
        rw [hf] at MB
        have HNO:=hid hno
        clear hno hf hok
        refine wp_region_later w4.heap.size (by kernel_rfl) (by kernel_rfl) ?_
        repeat (go_big_quiet_step ((go_at_call 130;with_reducible exact Later.call (Nat.le_refl _) (MB.out _))))
        refine wpQuiet_nil ?_
        rintro w5 ⟨q,hq5⟩
        have hb5:Below w4.heap.size w4 w5:=by rw [hq5];exact q.low
        have HB7:=hid (below_then HB6.out hb5)
        clear hq5 q g0 g1 g2 hb5
        go_wp2
        go_ret2
        exact ⟨HB7.out,Or.inr ⟨HNO.out,rfl⟩⟩
    · obtain rfl:i=n:=by omega
      have hmay:RMay l:=by
       refine ⟨chain_pair fun j hj=>HL.out j hj (by rw [HN.out];exact hj),fun t ht=>?_,by rw [←HN.out];exact hl⟩
       obtain ⟨j,hj,rfl⟩:=List.getElem_of_mem ht
       exact HO.out j hj (by rw [HN.out];exact hj)
      obtain ⟨wo,rfl⟩:∃ wo:World,wo=wr:=⟨_,rfl⟩
      have HMAY:=hid hmay
      clear hmay HO HL
      have hOK:=HMAY.out.2.1
      have HNA:=hid fun c=>A_may (c:=c) hOK (by rw [←HN.out];exact hl)
      go_upto_region 10 with fail
      obtain ⟨wa,hwa,HA,HBa⟩:=rgnew3 wo (.pointer none) (.pointer none) (.pointer none) 129
      rw [←hwa]
      have hza:wa.heap.size=wo.heap.size+1:=by rw [hwa];simp
      have HBw:=hid (below_then HB.out HBa.out)
      have hwr:=HB.out.size
      clear hwa hOK HBa
      go_wp2
      go_loopw [40] (fun s40 wr=>∃ (k:Nat) (pw:Nat→Nat),k≤3∧s40=.int .i64 k∧Hid (Below w.heap.size w wr)∧Hid (wo.heap.size+1≤wr.heap.size)∧Hid (Blk wr wo.heap.size (rcl pw k) 129)∧Hid (∀ c,c<k→Fresh (wo.heap.size+1) wr (fun W=>IsWave W (pw c) (Rg.A l c) 10))) (fun s40 _=>3-(intOf s40).toNat)
      case atStart=>exact ⟨0,fun _=>0,by omega,rfl,HBw.out,(show wo.heap.size+1≤wa.heap.size by omega),HA.out,fun c hc=>absurd hc (Nat.not_lt_zero _)⟩
      case round=>
       obtain ⟨k,pw,hk,rfl,HBx,HZ,HC,HF⟩:=hrel
       by_cases hkl:k<3
       · have CA:=colA_any (.slice a l.length cap) k l wr (HI.out.keep HBx.out) (by rw [←HN.out];exact hl) HMAY.out.2.1 hkl
         simp only [←HN.out] at CA
         go_upto_region 13 with fail
         go_wp2_with fail
         refine CA.mono ?_
         rintro e w5 ⟨a5,cap5,rfl,hA5,hB5⟩
         have WN:=wnew_ok a5 i cap5 10 (Rg.A l k) w5 (by rw [Rg.A_length];exact HN.out) (HNA.out k) hA5
         have HB5:=hid hB5
         clear CA hA5 hB5
         go_wp2_with fail
         refine WN.mono ?_
         rintro e w6 ⟨p6,rfl,hB6,hF6⟩
         have hz5:=HB5.out.size
         have hz6:=hB6.size
         have HC6:=hid ((HC.out.keep HB5.out).keep hB6)
         have HB6:=hid (below_then HBx.out (below_then HB5.out hB6))
         have hz:=HZ.out
         have HF6:=hid (hF6.mono (show wo.heap.size+1≤w5.heap.size by omega))
         have HFO:=hid fun c (hc:c<k)=>((HF.out c hc).keep HB5.out).keep hB6
         have c6:=HC6.out.cell (rcl_get pw k k hkl)
         have f6:=HC6.out.free k
         have HS:=hid (rcl_set pw k p6 hkl)
         clear WN hB6 hF6 HB5 HC HBx HF
         go_wp2
         go_roundw
         case rel=>
          refine ⟨k+1,fun c=>if c=k then p6 else pw c,by omega,by go_num,HB6.out.setCell (by show w.heap.size≤wo.heap.size;omega) _,(by show wo.heap.size+1≤_;simp;omega),?_,fun c hc=>?_⟩
          · have:=HC6.out.set k (.pointer (some ⟨p6,0,none⟩))
            rw [HS.out] at this
            exact this
          · by_cases hck:c=k
            · subst hck
              simp only [if_pos]
              exact fresh_set HF6.out _ _ _ (Nat.lt_succ_self _)
            · simp only [if_neg hck]
              exact fresh_set (HFO.out c (by omega)) _ _ _ (Nat.lt_succ_self _)
         case measure=>simp [intOf];omega
       · obtain rfl:k=3:=by omega
         have hring:Fresh w.heap.size wr (fun W=>IsRing W wo.heap.size l):=fun W hW=>by
          refine ⟨HMAY.out.1,HMAY.out.2.1,HMAY.out.2.2,pw,fun c hc=>⟨?_,?_⟩⟩
          · have h1:=HC.out.cell (rcl_get pw 3 c hc)
            rw [if_pos hc] at h1
            rw [←h1,cell_heap (hW wo.heap.size (by omega) HC.out.lt)]
          · exact HF.out c hc W fun b hb hl=>hW b (by omega) hl
         have HRING:=hid hring
         clear hring
         go_wp2
         go_ret2
         exact ⟨HBx.out,Or.inl ⟨HMAY.out,_,rfl,HRING.out⟩⟩
end Go.Proofs.YtjaebndajhppgaaGreatDoor
