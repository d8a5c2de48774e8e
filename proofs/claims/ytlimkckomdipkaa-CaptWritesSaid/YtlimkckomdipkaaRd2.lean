/- What is read so far, with one struct more. -/
import Derived.Test.YtlimkckomdipkaaSect
namespace Go.Proofs.Ytlimkckomdipkaa
open Go.RowKit

/-- One more of names. -/
theorem Rd.name {w5 w7 w0 : World} {R b np torn cp L c5 c7 : Nat} {O : Value} {q : Pl} {c : Cap} {A A5 A7 : Option Addr} {xs : List Value} {rows : List (List Value)} {x : Nam} (h : Rd w5 R b O q A cp xs c np torn) (hr : OwnM namKd w0 w5 b (.slice q.pn c.names.length q.cn) c.names rows c.names.length)
    (ho : w7.ownsRow b 49 2 (.slice A7 (c.names.length + 1) c7) (c.names.length + 1) (rows.flatten ++ namKd.row x (.slice A5 L c5))) (hg : (w5.alloc (.cells (namKd.row x (.slice A5 L c5)).toArray 49)).grownBy w7 (.slice q.pn c.names.length q.cn : Value).ownBlock) (ha : AlikeT 49 w5 w7)
    (hL : (namKd.dat x).length = L) (ho5 : w5.ownsRow b 5 1 (.slice A5 L c5) L ((namKd.dat x).map u8)) (hlt : ∀ y ∈ namKd.dat x, y < 256) (hcap : L ≤ 140737488355328) (hok : namKd.ok x) (hn : c.names.length < 1000) :
    Rd (w7.setCell ⟨R, 3, none⟩ (.slice A7 (c.names.length + 1) c7)) R b O ⟨q.pf, q.cf, A7, c7, q.ps, q.cs, q.pp, q.cp⟩ A cp xs ⟨c.note, c.faces, c.names ++ [x], c.secs, c.pkts⟩ np torn := by
  obtain ⟨rows', hM, ha7, hB7⟩ := OwnM.more namR (f := 3) hr h.blk rfl ho hg ha hL ho5 hlt hcap hok (by decide)
  obtain ⟨hn0, ⟨rf, hf⟩, ⟨w1, rn, hn1⟩, ⟨w2, rs, hs1⟩, ⟨w3, rp, hp1⟩, a1, a2, a3, a4⟩ := h.cap
  have hl1 : (c.names ++ [x]).length = c.names.length + 1 := by simp
  refine ⟨by simpa [rdV, hl1] using hB7, ⟨hn0, ⟨rf, facL_alike (facL_alike hf ha (by decide)) ha7 (by decide)⟩, ⟨w0, rows', by simpa only [hl1] using hM⟩, ⟨w2, rs, (hs1.alike ha (by decide) (by decide)).alike ha7 (by decide) (by decide)⟩, ⟨w3, rp, (hp1.alike ha (by decide) (by decide)).alike ha7 (by decide) (by decide)⟩, a1, by rw [hl1]; omega, a3, a4⟩, own_alikeT (own_alikeT h.parts ha (by decide)) ha7 (by decide), h.le⟩

/-- One more of secs. -/
theorem Rd.sec {w5 w7 w0 : World} {R b np torn cp L c5 c7 : Nat} {O : Value} {q : Pl} {c : Cap} {A A5 A7 : Option Addr} {xs : List Value} {rows : List (List Value)} {x : Sec} (h : Rd w5 R b O q A cp xs c np torn) (hr : OwnM secKd w0 w5 b (.slice q.ps c.secs.length q.cs) c.secs rows c.secs.length)
    (ho : w7.ownsRow b 65 2 (.slice A7 (c.secs.length + 1) c7) (c.secs.length + 1) (rows.flatten ++ secKd.row x (.slice A5 L c5))) (hg : (w5.alloc (.cells (secKd.row x (.slice A5 L c5)).toArray 65)).grownBy w7 (.slice q.ps c.secs.length q.cs : Value).ownBlock) (ha : AlikeT 65 w5 w7)
    (hL : (secKd.dat x).length = L) (ho5 : w5.ownsRow b 5 1 (.slice A5 L c5) L ((secKd.dat x).map u8)) (hlt : ∀ y ∈ secKd.dat x, y < 256) (hcap : L ≤ 140737488355328) (hok : secKd.ok x) (hn : c.secs.length < 1000) :
    Rd (w7.setCell ⟨R, 4, none⟩ (.slice A7 (c.secs.length + 1) c7)) R b O ⟨q.pf, q.cf, q.pn, q.cn, A7, c7, q.pp, q.cp⟩ A cp xs ⟨c.note, c.faces, c.names, c.secs ++ [x], c.pkts⟩ np torn := by
  obtain ⟨rows', hM, ha7, hB7⟩ := OwnM.more secR (f := 4) hr h.blk rfl ho hg ha hL ho5 hlt hcap hok (by decide)
  obtain ⟨hn0, ⟨rf, hf⟩, ⟨w1, rn, hn1⟩, ⟨w2, rs, hs1⟩, ⟨w3, rp, hp1⟩, a1, a2, a3, a4⟩ := h.cap
  have hl1 : (c.secs ++ [x]).length = c.secs.length + 1 := by simp
  refine ⟨by simpa [rdV, hl1] using hB7, ⟨hn0, ⟨rf, facL_alike (facL_alike hf ha (by decide)) ha7 (by decide)⟩, ⟨w1, rn, (hn1.alike ha (by decide) (by decide)).alike ha7 (by decide) (by decide)⟩, ⟨w0, rows', by simpa only [hl1] using hM⟩, ⟨w3, rp, (hp1.alike ha (by decide) (by decide)).alike ha7 (by decide) (by decide)⟩, a1, a2, by rw [hl1]; omega, a4⟩, own_alikeT (own_alikeT h.parts ha (by decide)) ha7 (by decide), h.le⟩

/-- One more of pkts. -/
theorem Rd.pkt {w5 w7 w0 : World} {R b np torn cp L c5 c7 : Nat} {O : Value} {q : Pl} {c : Cap} {A A5 A7 : Option Addr} {xs : List Value} {rows : List (List Value)} {x : Pkt} (h : Rd w5 R b O q A cp xs c np torn) (hr : OwnM pktKd w0 w5 b (.slice q.pp c.pkts.length q.cp) c.pkts rows c.pkts.length)
    (ho : w7.ownsRow b 47 5 (.slice A7 (c.pkts.length + 1) c7) (c.pkts.length + 1) (rows.flatten ++ pktKd.row x (.slice A5 L c5))) (hg : (w5.alloc (.cells (pktKd.row x (.slice A5 L c5)).toArray 47)).grownBy w7 (.slice q.pp c.pkts.length q.cp : Value).ownBlock) (ha : AlikeT 47 w5 w7)
    (hL : (pktKd.dat x).length = L) (ho5 : w5.ownsRow b 5 1 (.slice A5 L c5) L ((pktKd.dat x).map u8)) (hlt : ∀ y ∈ pktKd.dat x, y < 256) (hcap : L ≤ 140737488355328) (hok : pktKd.ok x) (hn : c.pkts.length < 1000) :
    Rd (w7.setCell ⟨R, 5, none⟩ (.slice A7 (c.pkts.length + 1) c7)) R b O ⟨q.pf, q.cf, q.pn, q.cn, q.ps, q.cs, A7, c7⟩ A cp xs ⟨c.note, c.faces, c.names, c.secs, c.pkts ++ [x]⟩ np torn := by
  obtain ⟨rows', hM, ha7, hB7⟩ := OwnM.more pktR (f := 5) hr h.blk rfl ho hg ha hL ho5 hlt hcap hok (by decide)
  obtain ⟨hn0, ⟨rf, hf⟩, ⟨w1, rn, hn1⟩, ⟨w2, rs, hs1⟩, ⟨w3, rp, hp1⟩, a1, a2, a3, a4⟩ := h.cap
  have hl1 : (c.pkts ++ [x]).length = c.pkts.length + 1 := by simp
  refine ⟨by simpa [rdV, hl1] using hB7, ⟨hn0, ⟨rf, facL_alike (facL_alike hf ha (by decide)) ha7 (by decide)⟩, ⟨w1, rn, (hn1.alike ha (by decide) (by decide)).alike ha7 (by decide) (by decide)⟩, ⟨w2, rs, (hs1.alike ha (by decide) (by decide)).alike ha7 (by decide) (by decide)⟩, ⟨w0, rows', by simpa only [hl1] using hM⟩, a1, a2, a3, by rw [hl1]; omega⟩, own_alikeT (own_alikeT h.parts ha (by decide)) ha7 (by decide), h.le⟩
end Go.Proofs.Ytlimkckomdipkaa
