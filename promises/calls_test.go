package promises

import (
	"punnet/alpha"
	"punnet/bitin"
	"punnet/bitout"
	"punnet/block"
	"punnet/build"
	"punnet/canon"
	"punnet/central"
	"punnet/chain"
	"punnet/chains"
	"punnet/compact"
	"punnet/count"
	"punnet/crc"
	"punnet/decode"
	"punnet/deflate"
	"punnet/desc"
	"punnet/dev"
	"punnet/diff"
	"punnet/dos"
	"punnet/export"
	"punnet/finish"
	"punnet/glob"
	"punnet/gz"
	"punnet/history"
	"punnet/inflate"
	"punnet/lazy"
	"punnet/lengths"
	"punnet/linear"
	"punnet/listing"
	"punnet/local"
	"punnet/name"
	"punnet/octet"
	"punnet/op"
	"punnet/play"
	"punnet/quota"
	"punnet/ratio"
	"punnet/runs"
	"punnet/session"
	"punnet/snap"
	"punnet/spans"
	"punnet/split"
	"punnet/spool"
	"punnet/store"
	"punnet/strict"
	"punnet/table"
	"punnet/token"
	"punnet/trap"
	"punnet/turns"
	"punnet/window"
)

// functions are all that the chapters list, by their names. Methods are found by the values that these return.
var functions = map[string]any{
	"alpha.LengthBase": alpha.LengthBase,
	"alpha.DistBase":   alpha.DistBase,
	"alpha.Length":     alpha.Length,
	"alpha.Dist":       alpha.Dist,
	"alpha.FixedLits":  alpha.FixedLits,
	"alpha.FixedDists": alpha.FixedDists,
	"alpha.Order":      alpha.Order,
	"bitin.New":        bitin.New,
	"bitout.New":       bitout.New,
	"bitout.Reverse":   bitout.Reverse,
	"block.PutStored":  block.PutStored,
	"block.StoredBits": block.StoredBits,
	"block.PutFixed":   block.PutFixed,
	"block.PutDynamic": block.PutDynamic,
	"block.Costs":      block.Costs,
	"block.Cheapest":   block.Cheapest,
	"block.Put":        block.Put,
	"block.HeadOf":     block.HeadOf,
	"build.Make":       build.Make,
	"build.Behind":     build.Behind,
	"build.Record":     build.Record,
	"build.Directory":  build.Directory,
	"build.Archive":    build.Archive,
	"canon.Kind":       canon.Kind,
	"canon.Codes":      canon.Codes,
	"canon.Sorted":     canon.Sorted,
	"central.Read":     central.Read,
	"central.Parse":    central.Parse,
	"chain.Of":         chain.Of,
	"chain.Apart":      chain.Apart,
	"chains.New":       chains.New,
	"compact.Plan":     compact.Plan,
	"compact.Cost":     compact.Cost,
	"compact.Right":    compact.Right,
	"compact.Holes":    compact.Holes,
	"count.Of":         count.Of,
	"count.Add":        count.Add,
	"crc.Update":       crc.Update,
	"crc.Sum":          crc.Sum,
	"crc.Combine":      crc.Combine,
	"crc.Zeros":        crc.Zeros,
	"decode.May":       decode.May,
	"decode.New":       decode.New,
	"deflate.New":      deflate.New,
	"deflate.All":      deflate.All,
	"deflate.Bound":    deflate.Bound,
	"desc.Read":        desc.Read,
	"desc.Parse":       desc.Parse,
	"dev.New":          dev.New,
	"diff.Entries":     diff.Entries,
	"diff.Archives":    diff.Archives,
	"diff.Merge":       diff.Merge,
	"dos.Days":         dos.Days,
	"dos.Right":        dos.Right,
	"dos.Encode":       dos.Encode,
	"dos.Decode":       dos.Decode,
	"dos.Compare":      dos.Compare,
	"dos.Next":         dos.Next,
	"export.New":       export.New,
	"export.All":       export.All,
	"finish.Parse":     finish.Parse,
	"glob.Parse":       glob.Parse,
	"glob.Match":       glob.Match,
	"glob.Filter":      glob.Filter,
	"glob.Quote":       glob.Quote,
	"gz.Gzip":          gz.Gzip,
	"gz.Gunzip":        gz.Gunzip,
	"gz.Adler":         gz.Adler,
	"gz.Zlib":          gz.Zlib,
	"gz.Unzlib":        gz.Unzlib,
	"history.Check":    history.Check,
	"history.Deeds":    history.Deeds,
	"history.Names":    history.Names,
	"history.Pending":  history.Pending,
	"inflate.New":      inflate.New,
	"inflate.All":      inflate.All,
	"lazy.Level":       lazy.Level,
	"lazy.Tokens":      lazy.Tokens,
	"lengths.Check":    lengths.Check,
	"lengths.Make":     lengths.Make,
	"lengths.Cost":     lengths.Cost,
	"linear.Before":    linear.Before,
	"linear.Fits":      linear.Fits,
	"linear.Search":    linear.Search,
	"linear.ByEnd":     linear.ByEnd,
	"listing.Sort":     listing.Sort,
	"listing.Pad":      listing.Pad,
	"listing.Line":     listing.Line,
	"listing.Lines":    listing.Lines,
	"listing.Text":     listing.Text,
	"listing.Dirs":     listing.Dirs,
	"local.Read":       local.Read,
	"local.Parse":      local.Parse,
	"name.ASCII":       name.ASCII,
	"name.Rune":        name.Rune,
	"name.UTF8":        name.UTF8,
	"name.Check":       name.Check,
	"name.Parts":       name.Parts,
	"name.Base":        name.Base,
	"name.Dir":         name.Dir,
	"name.Less":        name.Less,
	"octet.Right":      octet.Right,
	"octet.Fits":       octet.Fits,
	"octet.Append":     octet.Append,
	"octet.Get":        octet.Get,
	"octet.Put":        octet.Put,
	"octet.Over":       octet.Over,
	"op.Word":          op.Word,
	"op.Kind":          op.Kind,
	"op.Parse":         op.Parse,
	"op.Text":          op.Text,
	"op.Script":        op.Script,
	"op.Digits":        op.Digits,
	"op.Number":        op.Number,
	"op.Clock":         op.Clock,
	"op.ReadClock":     op.ReadClock,
	"op.Hex":           op.Hex,
	"op.ReadHex":       op.ReadHex,
	"play.New":         play.New,
	"play.Run":         play.Run,
	"quota.New":        quota.New,
	"ratio.Share":      ratio.Share,
	"ratio.Saved":      ratio.Saved,
	"ratio.Class":      ratio.Class,
	"ratio.Compare":    ratio.Compare,
	"ratio.Sort":       ratio.Sort,
	"ratio.Sum":        ratio.Sum,
	"ratio.Mean":       ratio.Mean,
	"ratio.Finite":     ratio.Finite,
	"ratio.Median":     ratio.Median,
	"ratio.Clamp":      ratio.Clamp,
	"ratio.Percent":    ratio.Percent,
	"ratio.Sign":       ratio.Sign,
	"runs.Bits":        runs.Bits,
	"runs.Add":         runs.Add,
	"runs.Unpack":      runs.Unpack,
	"runs.Pack":        runs.Pack,
	"session.New":      session.New,
	"snap.Of":          snap.Of,
	"spans.New":        spans.New,
	"split.Pieces":     split.Pieces,
	"split.Join":       split.Join,
	"split.Split":      split.Split,
	"split.Bits":       split.Bits,
	"spool.New":        spool.New,
	"store.New":        store.New,
	"strict.All":       strict.All,
	"strict.Read":      strict.Read,
	"strict.Names":     strict.Names,
	"strict.Get":       strict.Get,
	"table.New":        table.New,
	"token.Sizes":      token.Sizes,
	"token.Expand":     token.Expand,
	"token.Literals":   token.Literals,
	"token.Cut":        token.Cut,
	"trap.Throw":       trap.Throw,
	"trap.Check":       trap.Check,
	"trap.Catch":       trap.Catch,
	"trap.First":       trap.First,
	"trap.Always":      trap.Always,
	"turns.New":        turns.New,
	"window.New":       window.New,
}
